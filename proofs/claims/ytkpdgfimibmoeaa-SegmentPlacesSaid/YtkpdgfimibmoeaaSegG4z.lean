/-
  Chapter 14 (segment): each part of a segment at its place: with options of 4 bytes and no data. Conditions: none but those typed.
-/
import Derived.Test.YtkpdgfimibmoeaaSegF
import Derived.Test.YtkpdgfimibmoeaaRgn
namespace Go.Proofs.Ytkpdgfimibmoeaa.seg
set_option linter.unusedVariables false
set_option linter.unusedSimpArgs false
open Go.ChangeShapes Go.WideShapes Go.ChangeAt Go.RowKit Go.IntWalk Go.Lib
set_option maxHeartbeats 40000000 in
theorem placesOk4z (w : World) (fr to sq ac : Int) (fp tp fl wi ms sc : Int) (A : Option Addr) (c : Nat) (l : List Int) (hl : Rd .u8 w A 0 l) (hc0 : A = none → c = 0) (hn : 0 ≤ 70000) (h4 : 0 ≤ sq ∧ sq ≤ 4294967295) (h5 : 0 ≤ ac ∧ ac ≤ 4294967295) (h : chk fp tp fl wi ms sc 0 = 0) (ho : (opt ms sc).length = 4) :
    Calls Try.prog 9 #[.agg #[.int .u32 fr, .int .i64 fp, .int .u32 to, .int .i64 tp, .int .u32 sq, .int .u32 ac, .int .i64 fl, .int .i64 wi, .int .i64 ms, .int .i64 sc, .slice A 0 c]] w fun x w' => x = .returned (.bool true) ∧ Only [] w w' := by
  have HLen := hid hl.len
  have HL := hid hl; clear hl
  have HC := hid hc0; clear hc0
  have HD := hid h
  have hP := parts_enc fr to sq ac fp tp fl wi ms sc l (chk_good h).1 h4 h5
  rw [ho] at hP
  have HP := hid hP
  have hEL : (encB fr to sq ac fp tp fl wi ms sc l).length = 24 := by rw [hP.len, HLen.out]
  have HEL := hid hEL; clear hEL hP h
  have OB : Hid (Ob (w.alloc (.cells #[.int .u32 fr, .int .i64 fp, .int .u32 to, .int .i64 tp, .int .u32 sq, .int .u32 ac, .int .i64 fl, .int .i64 wi, .int .i64 ms, .int .i64 sc, .slice A 0 c] 26)) w.heap.size 26 #[.int .u32 fr, .int .i64 fp, .int .u32 to, .int .i64 tp, .int .u32 sq, .int .u32 ac, .int .i64 fl, .int .i64 wi, .int .i64 ms, .int .i64 sc, .slice A 0 c]) := hid (Ob.new _ _ _)
  have QB : Hid (Only [] w (w.alloc (.cells #[.int .u32 fr, .int .i64 fp, .int .u32 to, .int .i64 tp, .int .u32 sq, .int .u32 ac, .int .i64 fl, .int .i64 wi, .int .i64 ms, .int .i64 sc, .slice A 0 c] 26))) := hid ((Only.refl [] w).alloc _)
  go_enter Try.func9, Try.ntmps9
  go_wp2_with fail
  refine (enc1 _ fr to sq ac fp tp fl wi ms sc A 0 c l (HL.out.only_nil QB.out) HC.out (by omega) HD.out).mono ?_
  rintro x w2 ⟨v2, rfl, hb, o2⟩
  generalize encB fr to sq ac fp tp fl wi ms sc l = e at *
  obtain ⟨g, cap, e2⟩ := hb.some_form (by rw [HEL.out]; omega)
  rw [HEL.out] at e2
  subst e2
  have hcap := hb.len
  obtain ⟨_, hcap1, hcap2⟩ := hcap
  have c12 := hb.cellD 12 (by omega)
  rw [show e.getD 12 0 = 96 from by rw [HP.out.p12]; rfl] at c12
  have hgl : g < w2.heap.size := hb.base_le.2
  have R2 := hid hb.rd
  have OB := hid (OB.out.only o2 (by simp)); have QB := hid (QB.out.trans o2); clear hb o2
  have hlt := OB.out.lt
  have O3 : Hid (Ob (w2.alloc (.cells #[.slice (some ⟨g, 0, none⟩) 24 cap] 24)) w2.heap.size 24 #[.slice (some ⟨g, 0, none⟩) 24 cap]) := hid (Ob.new _ _ _)
  have R3 := hid (R2.out.alloc (.cells #[.slice (some ⟨g, 0, none⟩) 24 cap] 24))
  have Q3 := hid (QB.out.alloc (.cells #[.slice (some ⟨g, 0, none⟩) 24 cap] 24))
  have OB3 := hid (OB.out.alloc (.cells #[.slice (some ⟨g, 0, none⟩) 24 cap] 24))
  have k0 := OB.out.cell 0; have k1 := OB.out.cell 1; have k2 := OB.out.cell 2; have k3 := OB.out.cell 3; have k4 := OB.out.cell 4; have k5 := OB.out.cell 5; have k6 := OB.out.cell 6; have k7 := OB.out.cell 7; have k8 := OB.out.cell 8; have k9 := OB.out.cell 9; have k10 := OB.out.cell 10
  go_wp2_with fail
  go_quiet (fail)
  go_wp2_with fail
  clear c12
  have T0 : Hid (twoF e 0 = fp) := hid HP.out.p0
  have T2 : Hid (twoF e 2 = tp) := hid HP.out.p2
  have T4 : Hid (fourF e 4 = sq) := hid HP.out.p4
  have T8 : Hid (fourF e 8 = ac) := hid HP.out.p8
  have T14 : Hid (twoF e 14 = wi) := hid HP.out.p14
  have T18 : Hid (twoF e 18 = 0) := hid HP.out.p18
  have HE13 := hid HP.out.p13
  have hfl := (chk_good HD.out).1
  unfold Good at hfl
  obtain ⟨A', c', hsl, hrd⟩ : ∃ A' c', (∀ W : World, (Instr.slice 24 (.slice (some ⟨g, 0, none⟩) 24 cap) (some (.int .i64 24)) none none).run Try.prog W = .ok (.slice A' 0 c') W) ∧ Rd .u8 (w2.alloc (.cells #[.slice (some ⟨g, 0, none⟩) 24 cap] 24)) A' 0 l := by
    have h0 := R3.out.drop 24 (by omega)
    rw [HP.out.pd] at h0
    by_cases hce : cap = 24
    · refine ⟨some ⟨g, 0, none⟩, 0, fun W => ?_, ?_⟩
      · have h1 : (24 : Int) ≤ (24 : Int) := by omega
        subst hce
        go_simp
      · have h2 : l = [] := List.length_eq_zero_iff.1 HLen.out
        rw [h2]; exact Rd.nil _ _ _
    · refine ⟨some ⟨g, 24, none⟩, cap - 24, fun W => ?_, ?_⟩
      · have h1 : (24 : Int) ≤ (24 : Int) := by omega
        go_simp
      · simpa using h0
  have RD := hid hrd; clear hrd
  have HL3 := hid (HL.out.only_nil Q3.out)
  have Y1 : Hid (IntKind.i64.wrap fl = fl) := hid (i64_in _ (by omega))
  have Y2 : Hid (wrap64 fl = fl) := hid (wrap64_in _ (by omega))
  clear hfl
  refine wp_region_noPanic ?_
  refine rgn.region (R := Only []) (by kernel_rfl) (Only.refl []) (fun _ _ _ => Only.trans) (fun _ _ _ _ _ h => h) [(0, true), (2, true), (3, true), (1, false), (4, true), (5, true), (6, true), (8, true), (9, true), (7, false), (10, true), (11, true), (12, true), (13, true), (15, true), (16, true), (14, false), (17, true), (18, true), (19, true), (20, true), (22, true), (23, true), (21, false), (24, true), (25, true), (26, true), (27, true), (28, true), (29, true), (30, true), (31, true), (32, true), (33, true), (34, true), (35, true), (36, true), (38, true), (39, true), (37, false), (40, true), (41, true), (42, true), (43, true), (44, false), (45, true), (46, true), (47, true), (48, true), (49, true), (50, true), (51, true), (52, true), (53, true), (54, true), (55, true), (56, true), (57, true), (58, true), (59, true), (60, true), (61, true), (62, true), (63, false), (64, true), (65, true), (66, false), (67, true), (68, false)] (by kernel_rfl) (fun W hWd => ?_)
  have HWd := hid hWd; clear hWd
  have OBW := hid (Ob.eq_drew (OB3.out.drewN _) HWd.out)
  have O3W := hid (Ob.eq_drew (O3.out.drewN _) HWd.out)
  have QWo := hid (Only.eq_drew ((Only.refl [] (w2.alloc (.cells #[.slice (some ⟨g, 0, none⟩) 24 cap] 24))).drewN _) HWd.out)
  have REW := hid (R3.out.only_nil QWo.out); have RDW := hid (RD.out.only_nil QWo.out); have HLW := hid (HL3.out.only_nil QWo.out); have QW := hid (Q3.out.trans QWo.out)
  clear k0 k1 k2 k3 k4 k5 k6 k7 k8 k9 k10
  have k1 := OBW.out.cell 1; have k3 := OBW.out.cell 3; have k4 := OBW.out.cell 4; have k5 := OBW.out.cell 5; have k6 := OBW.out.cell 6; have k7 := OBW.out.cell 7; have k10 := OBW.out.cell 10; have t3 := O3W.out.cell 0
  have g13 := REW.out.cell0 13 (by omega); rw [HE13.out] at g13
  refine rgn.Sched.y (v := ?_) rfl rfl rfl ?_ ?_
  rotate_left 1
  · intro W' hW'
    go_simp
    try with_reducible rfl
  try simp only [Act.put, List.setIfInBounds_toArray, List.set_cons_zero, List.set_cons_succ]
  refine rgn.Sched.y (v := ?_) rfl rfl rfl ?_ ?_
  rotate_left 1
  · intro W' hW'
    go_simp
    try with_reducible rfl
  try simp only [Act.put, List.setIfInBounds_toArray, List.set_cons_zero, List.set_cons_succ]
  refine rgn.Sched.y (v := ?_) rfl rfl rfl ?_ ?_
  rotate_left 1
  · intro W' hW'
    have q0 := hW'.keep k1
    go_simp
    try with_reducible rfl
  try simp only [Act.put, List.setIfInBounds_toArray, List.set_cons_zero, List.set_cons_succ]
  refine rgn.Sched.e rfl rfl (fun K hK => ?_)
  go_simp
  refine (callsOnly (two_any _ w2.heap.size g 24 cap e _ O3W.out REW.out (by omega) (by omega) (by omega))).mono ?_
  rintro x w5 ⟨rfl, o5⟩
  rw [T0.out]
  refine hK _ _ o5 ?_
  clear hK K
  try simp only [Act.put, List.setIfInBounds_toArray, List.set_cons_zero, List.set_cons_succ]
  have OBW := hid (OBW.out.only o5 (by simp)); have O3W := hid (O3W.out.only o5 (by simp)); have REW := hid (REW.out.only_nil o5); have RDW := hid (RDW.out.only_nil o5); have HLW := hid (HLW.out.only_nil o5); have QW := hid (QW.out.trans o5)
  clear k1 k3 k4 k5 k6 k7 k10 t3 g13
  have k1 := OBW.out.cell 1; have k3 := OBW.out.cell 3; have k4 := OBW.out.cell 4; have k5 := OBW.out.cell 5; have k6 := OBW.out.cell 6; have k7 := OBW.out.cell 7; have k10 := OBW.out.cell 10; have t3 := O3W.out.cell 0
  have g13 := REW.out.cell0 13 (by omega); rw [HE13.out] at g13
  clear o5
  refine rgn.Sched.y (v := ?_) rfl rfl rfl ?_ ?_
  rotate_left 1
  · intro W' hW'
    go_simp
    try with_reducible rfl
  try simp only [Act.put, List.setIfInBounds_toArray, List.set_cons_zero, List.set_cons_succ]
  refine rgn.Sched.y (v := ?_) rfl rfl rfl ?_ ?_
  rotate_left 1
  · intro W' hW'
    go_simp
    try with_reducible rfl
  try simp only [Act.put, List.setIfInBounds_toArray, List.set_cons_zero, List.set_cons_succ]
  refine rgn.Sched.y (v := ?_) rfl rfl rfl ?_ ?_
  rotate_left 1
  · intro W' hW'
    go_simp
    try with_reducible rfl
  try simp only [Act.put, List.setIfInBounds_toArray, List.set_cons_zero, List.set_cons_succ]
  refine rgn.Sched.y (v := ?_) rfl rfl rfl ?_ ?_
  rotate_left 1
  · intro W' hW'
    go_simp
    try with_reducible rfl
  try simp only [Act.put, List.setIfInBounds_toArray, List.set_cons_zero, List.set_cons_succ]
  refine rgn.Sched.y (v := ?_) rfl rfl rfl ?_ ?_
  rotate_left 1
  · intro W' hW'
    have q0 := hW'.keep k3
    go_simp
    try with_reducible rfl
  try simp only [Act.put, List.setIfInBounds_toArray, List.set_cons_zero, List.set_cons_succ]
  refine rgn.Sched.e rfl rfl (fun K hK => ?_)
  go_simp
  refine (callsOnly (two_any _ w2.heap.size g 24 cap e _ O3W.out REW.out (by omega) (by omega) (by omega))).mono ?_
  rintro x w6 ⟨rfl, o6⟩
  rw [T2.out]
  refine hK _ _ o6 ?_
  clear hK K
  try simp only [Act.put, List.setIfInBounds_toArray, List.set_cons_zero, List.set_cons_succ]
  have OBW := hid (OBW.out.only o6 (by simp)); have O3W := hid (O3W.out.only o6 (by simp)); have REW := hid (REW.out.only_nil o6); have RDW := hid (RDW.out.only_nil o6); have HLW := hid (HLW.out.only_nil o6); have QW := hid (QW.out.trans o6)
  clear k1 k3 k4 k5 k6 k7 k10 t3 g13
  have k1 := OBW.out.cell 1; have k3 := OBW.out.cell 3; have k4 := OBW.out.cell 4; have k5 := OBW.out.cell 5; have k6 := OBW.out.cell 6; have k7 := OBW.out.cell 7; have k10 := OBW.out.cell 10; have t3 := O3W.out.cell 0
  have g13 := REW.out.cell0 13 (by omega); rw [HE13.out] at g13
  clear o6
  refine rgn.Sched.y (v := ?_) rfl rfl rfl ?_ ?_
  rotate_left 1
  · intro W' hW'
    go_simp
    try with_reducible rfl
  try simp only [Act.put, List.setIfInBounds_toArray, List.set_cons_zero, List.set_cons_succ]
  refine rgn.Sched.y (v := ?_) rfl rfl rfl ?_ ?_
  rotate_left 1
  · intro W' hW'
    go_simp
    try with_reducible rfl
  try simp only [Act.put, List.setIfInBounds_toArray, List.set_cons_zero, List.set_cons_succ]
  refine rgn.Sched.y (v := ?_) rfl rfl rfl ?_ ?_
  rotate_left 1
  · intro W' hW'
    go_simp
    try with_reducible rfl
  try simp only [Act.put, List.setIfInBounds_toArray, List.set_cons_zero, List.set_cons_succ]
  refine rgn.Sched.y (v := ?_) rfl rfl rfl ?_ ?_
  rotate_left 1
  · intro W' hW'
    go_simp
    try with_reducible rfl
  try simp only [Act.put, List.setIfInBounds_toArray, List.set_cons_zero, List.set_cons_succ]
  refine rgn.Sched.y (v := ?_) rfl rfl rfl ?_ ?_
  rotate_left 1
  · intro W' hW'
    go_simp
    try with_reducible rfl
  try simp only [Act.put, List.setIfInBounds_toArray, List.set_cons_zero, List.set_cons_succ]
  refine rgn.Sched.y (v := ?_) rfl rfl rfl ?_ ?_
  rotate_left 1
  · intro W' hW'
    have q0 := hW'.keep k4
    go_simp
    try with_reducible rfl
  try simp only [Act.put, List.setIfInBounds_toArray, List.set_cons_zero, List.set_cons_succ]
  refine rgn.Sched.e rfl rfl (fun K hK => ?_)
  go_simp
  refine (callsOnly (four_any _ w2.heap.size g 24 cap e _ O3W.out REW.out (by omega) (by omega) (by omega))).mono ?_
  rintro x w7 ⟨rfl, o7⟩
  rw [T4.out]
  refine hK _ _ o7 ?_
  clear hK K
  try simp only [Act.put, List.setIfInBounds_toArray, List.set_cons_zero, List.set_cons_succ]
  have OBW := hid (OBW.out.only o7 (by simp)); have O3W := hid (O3W.out.only o7 (by simp)); have REW := hid (REW.out.only_nil o7); have RDW := hid (RDW.out.only_nil o7); have HLW := hid (HLW.out.only_nil o7); have QW := hid (QW.out.trans o7)
  clear k1 k3 k4 k5 k6 k7 k10 t3 g13
  have k1 := OBW.out.cell 1; have k3 := OBW.out.cell 3; have k4 := OBW.out.cell 4; have k5 := OBW.out.cell 5; have k6 := OBW.out.cell 6; have k7 := OBW.out.cell 7; have k10 := OBW.out.cell 10; have t3 := O3W.out.cell 0
  have g13 := REW.out.cell0 13 (by omega); rw [HE13.out] at g13
  clear o7
  refine rgn.Sched.y (v := ?_) rfl rfl rfl ?_ ?_
  rotate_left 1
  · intro W' hW'
    go_simp
    try with_reducible rfl
  try simp only [Act.put, List.setIfInBounds_toArray, List.set_cons_zero, List.set_cons_succ]
  refine rgn.Sched.y (v := ?_) rfl rfl rfl ?_ ?_
  rotate_left 1
  · intro W' hW'
    go_simp
    try with_reducible rfl
  try simp only [Act.put, List.setIfInBounds_toArray, List.set_cons_zero, List.set_cons_succ]
  refine rgn.Sched.y (v := ?_) rfl rfl rfl ?_ ?_
  rotate_left 1
  · intro W' hW'
    go_simp
    try with_reducible rfl
  try simp only [Act.put, List.setIfInBounds_toArray, List.set_cons_zero, List.set_cons_succ]
  refine rgn.Sched.y (v := ?_) rfl rfl rfl ?_ ?_
  rotate_left 1
  · intro W' hW'
    go_simp
    try with_reducible rfl
  try simp only [Act.put, List.setIfInBounds_toArray, List.set_cons_zero, List.set_cons_succ]
  refine rgn.Sched.y (v := ?_) rfl rfl rfl ?_ ?_
  rotate_left 1
  · intro W' hW'
    go_simp
    try with_reducible rfl
  try simp only [Act.put, List.setIfInBounds_toArray, List.set_cons_zero, List.set_cons_succ]
  refine rgn.Sched.y (v := ?_) rfl rfl rfl ?_ ?_
  rotate_left 1
  · intro W' hW'
    have q0 := hW'.keep k5
    go_simp
    try with_reducible rfl
  try simp only [Act.put, List.setIfInBounds_toArray, List.set_cons_zero, List.set_cons_succ]
  refine rgn.Sched.e rfl rfl (fun K hK => ?_)
  go_simp
  refine (callsOnly (four_any _ w2.heap.size g 24 cap e _ O3W.out REW.out (by omega) (by omega) (by omega))).mono ?_
  rintro x w8 ⟨rfl, o8⟩
  rw [T8.out]
  refine hK _ _ o8 ?_
  clear hK K
  try simp only [Act.put, List.setIfInBounds_toArray, List.set_cons_zero, List.set_cons_succ]
  have OBW := hid (OBW.out.only o8 (by simp)); have O3W := hid (O3W.out.only o8 (by simp)); have REW := hid (REW.out.only_nil o8); have RDW := hid (RDW.out.only_nil o8); have HLW := hid (HLW.out.only_nil o8); have QW := hid (QW.out.trans o8)
  clear k1 k3 k4 k5 k6 k7 k10 t3 g13
  have k1 := OBW.out.cell 1; have k3 := OBW.out.cell 3; have k4 := OBW.out.cell 4; have k5 := OBW.out.cell 5; have k6 := OBW.out.cell 6; have k7 := OBW.out.cell 7; have k10 := OBW.out.cell 10; have t3 := O3W.out.cell 0
  have g13 := REW.out.cell0 13 (by omega); rw [HE13.out] at g13
  clear o8
  refine rgn.Sched.y (v := ?_) rfl rfl rfl ?_ ?_
  rotate_left 1
  · intro W' hW'
    go_simp
    try with_reducible rfl
  try simp only [Act.put, List.setIfInBounds_toArray, List.set_cons_zero, List.set_cons_succ]
  refine rgn.Sched.y (v := ?_) rfl rfl rfl ?_ ?_
  rotate_left 1
  · intro W' hW'
    go_simp
    try with_reducible rfl
  try simp only [Act.put, List.setIfInBounds_toArray, List.set_cons_zero, List.set_cons_succ]
  refine rgn.Sched.y (v := ?_) rfl rfl rfl ?_ ?_
  rotate_left 1
  · intro W' hW'
    go_simp
    try with_reducible rfl
  try simp only [Act.put, List.setIfInBounds_toArray, List.set_cons_zero, List.set_cons_succ]
  refine rgn.Sched.y (v := ?_) rfl rfl rfl ?_ ?_
  rotate_left 1
  · intro W' hW'
    have q0 := hW'.keep t3
    go_simp
    try with_reducible rfl
  try simp only [Act.put, List.setIfInBounds_toArray, List.set_cons_zero, List.set_cons_succ]
  refine rgn.Sched.y (v := ?_) rfl rfl rfl ?_ ?_
  rotate_left 1
  · intro W' hW'
    go_simp
    try with_reducible rfl
  try simp only [Act.put, List.setIfInBounds_toArray, List.set_cons_zero, List.set_cons_succ]
  refine rgn.Sched.y (v := ?_) rfl rfl rfl ?_ ?_
  rotate_left 1
  · intro W' hW'
    have q0 := hW'.keep g13
    go_simp
    try with_reducible rfl
  try simp only [Act.put, List.setIfInBounds_toArray, List.set_cons_zero, List.set_cons_succ]
  refine rgn.Sched.y (v := ?_) rfl rfl rfl ?_ ?_
  rotate_left 1
  · intro W' hW'
    have y1 : IntKind.i64.wrap fl = fl := Y1.out
    have y2 : wrap64 fl = fl := Y2.out
    go_simp
    try with_reducible rfl
  try simp only [Act.put, List.setIfInBounds_toArray, List.set_cons_zero, List.set_cons_succ]
  refine rgn.Sched.y (v := ?_) rfl rfl rfl ?_ ?_
  rotate_left 1
  · intro W' hW'
    go_simp
    try with_reducible rfl
  try simp only [Act.put, List.setIfInBounds_toArray, List.set_cons_zero, List.set_cons_succ]
  refine rgn.Sched.y (v := ?_) rfl rfl rfl ?_ ?_
  rotate_left 1
  · intro W' hW'
    have q0 := hW'.keep k6
    go_simp
    try with_reducible rfl
  try simp only [Act.put, List.setIfInBounds_toArray, List.set_cons_zero, List.set_cons_succ]
  refine rgn.Sched.y (v := ?_) rfl rfl rfl ?_ ?_
  rotate_left 1
  · intro W' hW'
    go_simp
    try with_reducible rfl
  try simp only [Act.put, List.setIfInBounds_toArray, List.set_cons_zero, List.set_cons_succ]
  refine rgn.Sched.y (v := ?_) rfl rfl rfl ?_ ?_
  rotate_left 1
  · intro W' hW'
    go_simp
    try with_reducible rfl
  try simp only [Act.put, List.setIfInBounds_toArray, List.set_cons_zero, List.set_cons_succ]
  refine rgn.Sched.y (v := ?_) rfl rfl rfl ?_ ?_
  rotate_left 1
  · intro W' hW'
    go_simp
    try with_reducible rfl
  try simp only [Act.put, List.setIfInBounds_toArray, List.set_cons_zero, List.set_cons_succ]
  refine rgn.Sched.y (v := ?_) rfl rfl rfl ?_ ?_
  rotate_left 1
  · intro W' hW'
    go_simp
    try with_reducible rfl
  try simp only [Act.put, List.setIfInBounds_toArray, List.set_cons_zero, List.set_cons_succ]
  refine rgn.Sched.y (v := ?_) rfl rfl rfl ?_ ?_
  rotate_left 1
  · intro W' hW'
    go_simp
    try with_reducible rfl
  try simp only [Act.put, List.setIfInBounds_toArray, List.set_cons_zero, List.set_cons_succ]
  refine rgn.Sched.y (v := ?_) rfl rfl rfl ?_ ?_
  rotate_left 1
  · intro W' hW'
    have q0 := hW'.keep k7
    go_simp
    try with_reducible rfl
  try simp only [Act.put, List.setIfInBounds_toArray, List.set_cons_zero, List.set_cons_succ]
  refine rgn.Sched.e rfl rfl (fun K hK => ?_)
  go_simp
  refine (callsOnly (two_any _ w2.heap.size g 24 cap e _ O3W.out REW.out (by omega) (by omega) (by omega))).mono ?_
  rintro x w9 ⟨rfl, o9⟩
  rw [T14.out]
  refine hK _ _ o9 ?_
  clear hK K
  try simp only [Act.put, List.setIfInBounds_toArray, List.set_cons_zero, List.set_cons_succ]
  have OBW := hid (OBW.out.only o9 (by simp)); have O3W := hid (O3W.out.only o9 (by simp)); have REW := hid (REW.out.only_nil o9); have RDW := hid (RDW.out.only_nil o9); have HLW := hid (HLW.out.only_nil o9); have QW := hid (QW.out.trans o9)
  clear k1 k3 k4 k5 k6 k7 k10 t3 g13
  have k1 := OBW.out.cell 1; have k3 := OBW.out.cell 3; have k4 := OBW.out.cell 4; have k5 := OBW.out.cell 5; have k6 := OBW.out.cell 6; have k7 := OBW.out.cell 7; have k10 := OBW.out.cell 10; have t3 := O3W.out.cell 0
  have g13 := REW.out.cell0 13 (by omega); rw [HE13.out] at g13
  clear o9
  refine rgn.Sched.y (v := ?_) rfl rfl rfl ?_ ?_
  rotate_left 1
  · intro W' hW'
    go_simp
    try with_reducible rfl
  try simp only [Act.put, List.setIfInBounds_toArray, List.set_cons_zero, List.set_cons_succ]
  refine rgn.Sched.y (v := ?_) rfl rfl rfl ?_ ?_
  rotate_left 1
  · intro W' hW'
    go_simp
    try with_reducible rfl
  try simp only [Act.put, List.setIfInBounds_toArray, List.set_cons_zero, List.set_cons_succ]
  refine rgn.Sched.y (v := ?_) rfl rfl rfl ?_ ?_
  rotate_left 1
  · intro W' hW'
    go_simp
    try with_reducible rfl
  try simp only [Act.put, List.setIfInBounds_toArray, List.set_cons_zero, List.set_cons_succ]
  refine rgn.Sched.y (v := ?_) rfl rfl rfl ?_ ?_
  rotate_left 1
  · intro W' hW'
    go_simp
    try with_reducible rfl
  try simp only [Act.put, List.setIfInBounds_toArray, List.set_cons_zero, List.set_cons_succ]
  refine rgn.Sched.e rfl rfl (fun K hK => ?_)
  go_simp
  refine (callsOnly (two_any _ w2.heap.size g 24 cap e _ O3W.out REW.out (by omega) (by omega) (by omega))).mono ?_
  rintro x w10 ⟨rfl, o10⟩
  rw [T18.out]
  refine hK _ _ o10 ?_
  clear hK K
  try simp only [Act.put, List.setIfInBounds_toArray, List.set_cons_zero, List.set_cons_succ]
  have OBW := hid (OBW.out.only o10 (by simp)); have O3W := hid (O3W.out.only o10 (by simp)); have REW := hid (REW.out.only_nil o10); have RDW := hid (RDW.out.only_nil o10); have HLW := hid (HLW.out.only_nil o10); have QW := hid (QW.out.trans o10)
  clear k1 k3 k4 k5 k6 k7 k10 t3 g13
  have k1 := OBW.out.cell 1; have k3 := OBW.out.cell 3; have k4 := OBW.out.cell 4; have k5 := OBW.out.cell 5; have k6 := OBW.out.cell 6; have k7 := OBW.out.cell 7; have k10 := OBW.out.cell 10; have t3 := O3W.out.cell 0
  have g13 := REW.out.cell0 13 (by omega); rw [HE13.out] at g13
  clear o10
  refine rgn.Sched.y (v := ?_) rfl rfl rfl ?_ ?_
  rotate_left 1
  · intro W' hW'
    go_simp
    try with_reducible rfl
  try simp only [Act.put, List.setIfInBounds_toArray, List.set_cons_zero, List.set_cons_succ]
  refine rgn.Sched.y (v := ?_) rfl rfl rfl ?_ ?_
  rotate_left 1
  · intro W' hW'
    go_simp
    try with_reducible rfl
  try simp only [Act.put, List.setIfInBounds_toArray, List.set_cons_zero, List.set_cons_succ]
  refine rgn.Sched.y (v := ?_) rfl rfl rfl ?_ ?_
  rotate_left 1
  · intro W' hW'
    go_simp
    try with_reducible rfl
  try simp only [Act.put, List.setIfInBounds_toArray, List.set_cons_zero, List.set_cons_succ]
  refine rgn.Sched.y (v := ?_) rfl rfl rfl ?_ ?_
  rotate_left 1
  · intro W' hW'
    have q0 := hW'.keep t3
    go_simp
    try with_reducible rfl
  try simp only [Act.put, List.setIfInBounds_toArray, List.set_cons_zero, List.set_cons_succ]
  refine rgn.Sched.y (v := ?_) rfl rfl rfl ?_ ?_
  rotate_left 1
  · intro W' hW'
    go_simp
    try with_reducible rfl
  try simp only [Act.put, List.setIfInBounds_toArray, List.set_cons_zero, List.set_cons_succ]
  refine rgn.Sched.y (v := ?_) rfl rfl rfl ?_ ?_
  rotate_left 1
  · intro W' hW'
    go_simp
    try with_reducible rfl
  try simp only [Act.put, List.setIfInBounds_toArray, List.set_cons_zero, List.set_cons_succ]
  refine rgn.Sched.y (v := ?_) rfl rfl rfl ?_ ?_
  rotate_left 1
  · intro W' hW'
    go_simp
    try with_reducible rfl
  try simp only [Act.put, List.setIfInBounds_toArray, List.set_cons_zero, List.set_cons_succ]
  refine rgn.Sched.y (v := ?_) rfl rfl rfl ?_ ?_
  rotate_left 1
  · intro W' hW'
    have q0 := hW'.keep k10
    go_simp
    try with_reducible rfl
  try simp only [Act.put, List.setIfInBounds_toArray, List.set_cons_zero, List.set_cons_succ]
  refine rgn.Sched.y (v := ?_) rfl rfl rfl ?_ ?_
  rotate_left 1
  · intro W' hW'
    go_simp
    try with_reducible rfl
  try simp only [Act.put, List.setIfInBounds_toArray, List.set_cons_zero, List.set_cons_succ]
  refine rgn.Sched.y (v := ?_) rfl rfl rfl ?_ ?_
  rotate_left 1
  · intro W' hW'
    go_simp
    try with_reducible rfl
  try simp only [Act.put, List.setIfInBounds_toArray, List.set_cons_zero, List.set_cons_succ]
  refine rgn.Sched.y (v := ?_) rfl rfl rfl ?_ ?_
  rotate_left 1
  · intro W' hW'
    go_simp
    try with_reducible rfl
  try simp only [Act.put, List.setIfInBounds_toArray, List.set_cons_zero, List.set_cons_succ]
  refine rgn.Sched.y (v := ?_) rfl rfl rfl ?_ ?_
  rotate_left 1
  · intro W' hW'
    go_simp
    try with_reducible rfl
  try simp only [Act.put, List.setIfInBounds_toArray, List.set_cons_zero, List.set_cons_succ]
  refine rgn.Sched.y (v := ?_) rfl rfl rfl ?_ ?_
  rotate_left 1
  · intro W' hW'
    go_simp
    try with_reducible rfl
  try simp only [Act.put, List.setIfInBounds_toArray, List.set_cons_zero, List.set_cons_succ]
  refine rgn.Sched.y (v := ?_) rfl rfl rfl ?_ ?_
  rotate_left 1
  · intro W' hW'
    have q0 := hW'.keep t3
    go_simp
    try with_reducible rfl
  try simp only [Act.put, List.setIfInBounds_toArray, List.set_cons_zero, List.set_cons_succ]
  refine rgn.Sched.y (v := ?_) rfl rfl rfl ?_ ?_
  rotate_left 1
  · intro W' hW'
    go_simp
    try with_reducible rfl
  try simp only [Act.put, List.setIfInBounds_toArray, List.set_cons_zero, List.set_cons_succ]
  refine rgn.Sched.y (v := ?_) rfl rfl rfl ?_ ?_
  rotate_left 1
  · intro W' hW'
    go_simp
    try with_reducible rfl
  try simp only [Act.put, List.setIfInBounds_toArray, List.set_cons_zero, List.set_cons_succ]
  refine rgn.Sched.y (v := ?_) rfl rfl rfl ?_ ?_
  rotate_left 1
  · intro W' hW'
    go_simp
    try with_reducible rfl
  try simp only [Act.put, List.setIfInBounds_toArray, List.set_cons_zero, List.set_cons_succ]
  refine rgn.Sched.y (v := ?_) rfl rfl rfl ?_ ?_
  rotate_left 1
  · intro W' hW'
    have q0 := hW'.keep k10
    go_simp
    try with_reducible rfl
  try simp only [Act.put, List.setIfInBounds_toArray, List.set_cons_zero, List.set_cons_succ]
  refine rgn.Sched.e rfl rfl (fun K hK => ?_)
  go_simp
  refine (callsOnly (hlp.same _ _ A 0 0 _ c l l RDW.out HLW.out (by omega) (by omega))).mono ?_
  rintro x w11 ⟨rfl, o11⟩
  rw [show decide (l = l) = true from by simp]
  refine hK _ _ o11 ?_
  clear hK K
  try simp only [Act.put, List.setIfInBounds_toArray, List.set_cons_zero, List.set_cons_succ]
  have OBW := hid (OBW.out.only o11 (by simp)); have O3W := hid (O3W.out.only o11 (by simp)); have REW := hid (REW.out.only_nil o11); have RDW := hid (RDW.out.only_nil o11); have HLW := hid (HLW.out.only_nil o11); have QW := hid (QW.out.trans o11)
  clear k1 k3 k4 k5 k6 k7 k10 t3 g13
  have k1 := OBW.out.cell 1; have k3 := OBW.out.cell 3; have k4 := OBW.out.cell 4; have k5 := OBW.out.cell 5; have k6 := OBW.out.cell 6; have k7 := OBW.out.cell 7; have k10 := OBW.out.cell 10; have t3 := O3W.out.cell 0
  have g13 := REW.out.cell0 13 (by omega); rw [HE13.out] at g13
  clear o11
  refine rgn.Sched.y (v := ?_) rfl rfl rfl ?_ ?_
  rotate_left 1
  · intro W' hW'
    go_simp
    try with_reducible rfl
  try simp only [Act.put, List.setIfInBounds_toArray, List.set_cons_zero, List.set_cons_succ]
  refine rgn.Sched.y (v := ?_) rfl rfl rfl ?_ ?_
  rotate_left 1
  · intro W' hW'
    go_simp
    try with_reducible rfl
  try simp only [Act.put, List.setIfInBounds_toArray, List.set_cons_zero, List.set_cons_succ]
  refine rgn.Sched.e rfl rfl (fun K hK => ?_)
  go_simp
  refine (known _).mono ?_
  rintro x w12 ⟨rfl, o12⟩
  refine hK _ _ o12 ?_
  clear hK K
  try simp only [Act.put, List.setIfInBounds_toArray, List.set_cons_zero, List.set_cons_succ]
  have OBW := hid (OBW.out.only o12 (by simp)); have O3W := hid (O3W.out.only o12 (by simp)); have REW := hid (REW.out.only_nil o12); have RDW := hid (RDW.out.only_nil o12); have HLW := hid (HLW.out.only_nil o12); have QW := hid (QW.out.trans o12)
  clear k1 k3 k4 k5 k6 k7 k10 t3 g13
  have k1 := OBW.out.cell 1; have k3 := OBW.out.cell 3; have k4 := OBW.out.cell 4; have k5 := OBW.out.cell 5; have k6 := OBW.out.cell 6; have k7 := OBW.out.cell 7; have k10 := OBW.out.cell 10; have t3 := O3W.out.cell 0
  have g13 := REW.out.cell0 13 (by omega); rw [HE13.out] at g13
  clear o12
  refine rgn.Sched.y (v := ?_) rfl rfl rfl ?_ ?_
  rotate_left 1
  · intro W' hW'
    go_simp
    try with_reducible rfl
  try simp only [Act.put, List.setIfInBounds_toArray, List.set_cons_zero, List.set_cons_succ]
  refine rgn.Sched.e rfl rfl (fun K hK => ?_)
  go_simp
  refine hK _ _ ((Only.refl []) _) ?_
  try simp only [Act.put, List.setIfInBounds_toArray, List.set_cons_zero, List.set_cons_succ]
  refine rgn.Sched.z (NoPanic.normal ?_)
  go_wp2
  go_ret
  exact ⟨rfl, QW.out⟩
end Go.Proofs.Ytkpdgfimibmoeaa.seg
