/-
  Chapter 7: what is known of known(). Conditions: none.
-/
import Derived.Test.YtngaolagifgfjaaEvS
import Derived.Test.YtngaolagifgfjaaFrC
import Derived.Deep.LoopGhost
import Derived.Test.YtngaolagifgfjaaFsB
import Derived.Test.YtngaolagifgfjaaFsC
import Derived.Test.YtngaolagifgfjaaIfF
namespace Go.Proofs.Ytngaolagifgfjaa.ev
set_option maxRecDepth 1000000
theorem known (w : World) : Calls Try.prog 18 #[] w (fun e w' => e = .returned (.bool true) ∧ Only [] w w') :=
  law (f := 300) (args := []) (by kernel_rfl) rfl w
end Go.Proofs.Ytngaolagifgfjaa.ev
/-
  Chapter 7 (frag): Split of the code, by a walk of its text. Conditions: none but those typed.
-/
namespace Go.Proofs.Ytngaolagifgfjaa.ip
set_option linter.unusedVariables false
set_option linter.unusedSimpArgs false
open Go.ChangeShapes Go.WideShapes Go.ChangeAt Go.RowKit Go.IntWalk Go.Lib
theorem Same.of_onlyS {S : List Nat} {g : Nat} {w w' : World} (h : Only S w w') (hg : g < w.heap.size) (hn : g ∉ S) : Same g w w' := h.block g hg hn
def SplE (off : Int) (mo : Bool) (m : Int) (d : List Int) (w : World) (x : Ending) (w' : World) : Prop := ∃ (v : Value) (e : Int) (M : List Pk), x = .returned (.tuple #[v, .int .i64 e]) ∧ ((e ≠ 0 ∧ v = .slice none 0 0 ∧ M = []) ∨ (e = 0 ∧ Whole off mo m.toNat d M)) ∧ w'.ownsRow w.heap.size 26 11 v M.length (pcs M) ∧ PDs w.heap.size w' M ∧ Only [] w w'
set_option maxRecDepth 100000 in
set_option maxHeartbeats 16000000 in
theorem split1 (w : World) (sv pid : Int) (wh mo : Bool) (off lf pr fr to : Int) (oA : Option Addr) (on oc : Nat) (dA : Option Addr) (dn dc : Nat) (o d : List Int) (m : Int) (ho : Rd .u8 w oA on o) (hoc : oA = none → oc = 0) (hnc : on ≤ oc) (hcm : oc ≤ maxLen) (hn : on ≤ 100000) (hd : Rd .u8 w dA dn d) (hdc : dA = none → dc = 0) (hdnc : dn ≤ dc) (hdcm : dc ≤ maxLen) (hdn : dn ≤ 100000) :
    Calls Try.prog 13 #[.agg #[.int .i64 sv, .int .i64 pid, .bool wh, .bool mo, .int .i64 off, .int .i64 lf, .int .i64 pr, .int .u32 fr, .int .u32 to, .slice oA on oc, .slice dA dn dc], .int .i64 m] w (SplE off mo m d w) := by
  have Hon := hid ho.len; have Hdn := hid hd.len
  obtain ⟨W0, hW0⟩ : ∃ W0, w.alloc (.cells #[.int .i64 sv, .int .i64 pid, .bool wh, .bool mo, .int .i64 off, .int .i64 lf, .int .i64 pr, .int .u32 fr, .int .u32 to, .slice oA on oc, .slice dA dn dc] 26) = W0 := ⟨_, rfl⟩
  have C0 : Hid (Ob W0 w.heap.size 26 #[.int .i64 sv, .int .i64 pid, .bool wh, .bool mo, .int .i64 off, .int .i64 lf, .int .i64 pr, .int .u32 fr, .int .u32 to, .slice oA on oc, .slice dA dn dc]) := hid (by rw [← hW0]; exact Ob.new _ _ _)
  have Q0 : Hid (Only [] w W0) := hid (by rw [← hW0]; exact (Only.refl [] w).alloc _)
  have HO := hid ho; have HD := hid hd; have HCo := hid hcm; have HCd := hid hdcm; have HZo := hid hoc; have HZd := hid hdc
  have k0 := C0.out.cell 0; have k1 := C0.out.cell 1; have k2 := C0.out.cell 2; have k3 := C0.out.cell 3; have k4 := C0.out.cell 4; have k5 := C0.out.cell 5; have k6 := C0.out.cell 6; have k7 := C0.out.cell 7; have k8 := C0.out.cell 8; have k9 := C0.out.cell 9; have k10 := C0.out.cell 10
  clear ho hd hcm hdcm hoc hdc
  go_enter Try.func13, Try.ntmps13
  by_cases m1 : m < 68
  case pos =>
    go_wp2_with fail
    go_ret2
    exact ⟨.slice none 0 0, 1, [], rfl, .inl ⟨by decide, rfl, rfl⟩, World.ownsRow_nil _ _ _ _, (fun p hp => by cases hp), Q0.out⟩
  by_cases m2 : 65535 < m
  case pos =>
    go_wp2_with fail
    go_ret2
    exact ⟨.slice none 0 0, 1, [], rfl, .inl ⟨by decide, rfl, rfl⟩, World.ownsRow_nil _ _ _ _, (fun p hp => by cases hp), Q0.out⟩
  by_cases hck : chk sv pid off lf pr o dn = 0
  case neg =>
    go_wp2_with fail
    refine (encE W0 sv pid off lf pr wh mo fr to oA on oc dA dn dc o (HO.out.only_nil Q0.out) hnc HCo.out hn hdn hck).mono ?_
    rintro x w2 ⟨rfl, o2⟩
    have Q2 := hid (Q0.out.trans o2)
    obtain ⟨e, he⟩ : ∃ e, chk sv pid off lf pr o dn = e := ⟨_, rfl⟩
    rw [he] at hck
    rw [he]
    have hckb : (e != 0) = true := by simpa using hck
    clear k0 k1 k2 k3 k4 k5 k6 k7 k8 k9 k10 he o2
    go_wp2_with fail
    go_ret2
    exact ⟨.slice none 0 0, e, [], rfl, .inl ⟨hck, rfl, rfl⟩, World.ownsRow_nil _ _ _ _, (fun p hp => by cases hp), Q2.out⟩
  go_wp2_with fail
  refine (enc1 W0 sv pid off lf pr wh mo fr to oA on oc dA dn dc o d (HO.out.only_nil Q0.out) HZo.out hnc HCo.out hn (HD.out.only_nil Q0.out) HZd.out hdn hck).mono ?_
  rintro x w2 ⟨vb, rfl, _, o2⟩
  have HCk := hid hck
  obtain ⟨hN, h40, hok, hll⟩ := chk0 hck
  have HOf : Hid (Ofs o true) := hid (by have h9 := ofs_okO o; rwa [hok] at h9)
  have hon40 : on ≤ 40 := by rw [← Hon.out]; exact h40
  have hlb := hl_bd on
  have HLL : Hid ((hl on : Int) + off + dn ≤ 65535) := hid (by have h9 := hll; rwa [Hon.out] at h9)
  have HNu := hid hN
  have Q2 := hid (Q0.out.trans o2)
  have C2 := hid (C0.out.only o2 (by simp))
  have HW2 : Hid (w.heap.size < w2.heap.size) := hid C2.out.lt
  clear k0 k1 k2 k3 k4 k5 k6 k7 k8 k9 k10 o2 hck hN h40 hok hll hW0
  have k0 := C2.out.cell 0; have k1 := C2.out.cell 1; have k2 := C2.out.cell 2; have k3 := C2.out.cell 3; have k4 := C2.out.cell 4; have k5 := C2.out.cell 5; have k6 := C2.out.cell 6; have k7 := C2.out.cell 7; have k8 := C2.out.cell 8; have k9 := C2.out.cell 9; have k10 := C2.out.cell 10
  have hwr : IntKind.i64.wrap (((hl on : Nat) : Int) + (dn : Int)) = ((hl on : Nat) : Int) + (dn : Int) := i64_in _ (by omega)
  go_wp2_with fail
  refine wp_region_noPanic ?_
  refine rgn.regionT (R := Only []) (by kernel_rfl) (Only.refl []) (fun _ _ _ => Only.trans) (fun _ _ _ _ _ h => h) (.y 0 (.y 1 (.y 3 (.y 4 (.y 5 (.y 7 (.e 2 (.y 6 (.y 8 .z))))))))) (by kernel_rfl) (fun W hWd => ?_)
  have HWd := hid hWd; clear hWd
  have HQ6 : Hid (Only [] w2 W) := hid (Only.eq_drew (Only.refl [] _) HWd.out)
  have q9 := HQ6.out.keep k9
  have q10 := HQ6.out.keep k10
  clear HWd
  refine rgn.Walk.ys (v := ?_) rfl rfl rfl ?_ ?_
  rotate_left 1
  · intro W' hW'
    go_simp
    try with_reducible rfl
  try simp only [Act.put, List.setIfInBounds_toArray, List.set_cons_zero, List.set_cons_succ]
  refine rgn.Walk.ys (v := ?_) rfl rfl rfl ?_ ?_
  rotate_left 1
  · intro W' hW'
    have q0 := hW'.keep q9
    go_simp
    try with_reducible rfl
  try simp only [Act.put, List.setIfInBounds_toArray, List.set_cons_zero, List.set_cons_succ]
  refine rgn.Walk.ys (v := ?_) rfl rfl rfl ?_ ?_
  rotate_left 1
  · intro W' hW'
    go_simp
    try with_reducible rfl
  try simp only [Act.put, List.setIfInBounds_toArray, List.set_cons_zero, List.set_cons_succ]
  refine rgn.Walk.ys (v := ?_) rfl rfl rfl ?_ ?_
  rotate_left 1
  · intro W' hW'
    have q0 := hW'.keep q10
    go_simp
    try with_reducible rfl
  try simp only [Act.put, List.setIfInBounds_toArray, List.set_cons_zero, List.set_cons_succ]
  refine rgn.Walk.ys (v := ?_) rfl rfl rfl ?_ ?_
  rotate_left 1
  · intro W' hW'
    go_simp
    try with_reducible rfl
  try simp only [Act.put, List.setIfInBounds_toArray, List.set_cons_zero, List.set_cons_succ]
  refine rgn.Walk.ys (v := ?_) rfl rfl rfl ?_ ?_
  rotate_left 1
  · intro W' hW'
    go_simp
    try with_reducible rfl
  try simp only [Act.put, List.setIfInBounds_toArray, List.set_cons_zero, List.set_cons_succ]
  refine rgn.Walk.es ?_
  refine rgn.stepE rfl rfl (fun K hK => ?_)
  go_simp
  refine (fhead1 _ oA on oc (by omega)).mono ?_
  rintro x w4 ⟨rfl, hw4⟩
  obtain rfl := hw4.symm
  refine hK _ _ (Only.refl [] _) ?_
  clear hK K
  try simp only [Act.put, List.setIfInBounds_toArray, List.set_cons_zero, List.set_cons_succ]
  refine rgn.Walk.ys (v := ?_) rfl rfl rfl ?_ ?_
  rotate_left 1
  · intro W' hW'
    go_simp
    try with_reducible rfl
  try simp only [Act.put, List.setIfInBounds_toArray, List.set_cons_zero, List.set_cons_succ]
  refine rgn.Walk.ys (v := ?_) rfl rfl rfl ?_ ?_
  rotate_left 1
  · intro W' hW'
    go_simp
    try with_reducible rfl
  try simp only [Act.put, List.setIfInBounds_toArray, List.set_cons_zero, List.set_cons_succ]
  refine rgn.Walk.zs (NoPanic.normal ?_)
  clear k0 k1 k2 k3 k4 k5 k6 k7 k8 k9 k10 hwr q9 q10
  obtain ⟨w3, hw3⟩ : ∃ w3, w3 = W := ⟨_, rfl⟩
  subst hw3
  have C3 := hid (C2.out.only HQ6.out (by simp))
  have Q3 := hid (Q2.out.trans HQ6.out)
  have hs3 : w.heap.size < w3.heap.size := Nat.lt_of_lt_of_le HW2.out HQ6.out.size
  have k0 := C3.out.cell 0; have k1 := C3.out.cell 1; have k2 := C3.out.cell 2; have k3 := C3.out.cell 3; have k4 := C3.out.cell 4; have k5 := C3.out.cell 5; have k6 := C3.out.cell 6; have k7 := C3.out.cell 7; have k8 := C3.out.cell 8; have k9 := C3.out.cell 9; have k10 := C3.out.cell 10
  clear C0 C2 Q0 Q2 HQ6 HW2
  by_cases hfit : ((hl on : Nat) : Int) + (dn : Int) ≤ m
  case pos =>
    go_wp2_with fail
    refine (fclone1 w3 sv pid wh mo off lf pr fr to oA on oc dA dn dc o d (HO.out.only_nil Q3.out) HZo.out (HD.out.only_nil Q3.out) HZd.out hn hdn).mono ?_
    rintro x w4 ⟨A1, c1, A2, c2, rfl, h1, h2, o4⟩
    have H1 := hid h1; have H2 := hid h2
    have Q4 := hid (Q3.out.trans o4)
    have hs4 := o4.size
    clear k0 k1 k2 k3 k4 k5 k6 k7 k8 k9 k10 h1 h2 o4
    go_wp2_with fail
    go_ret2
    obtain ⟨q, hq⟩ : ∃ q : Pk, q = ⟨sv, pid, wh, mo, off, lf, pr, fr, to, A1, c1, o, A2, c2, d⟩ := ⟨_, rfl⟩
    have hqo : q.o.length = on := by rw [hq]; exact Hon.out
    have hqd : q.d.length = dn := by rw [hq]; exact Hdn.out
    have hcs : q.cs.toArray = #[.int .i64 sv, .int .i64 pid, .bool wh, .bool mo, .int .i64 off, .int .i64 lf, .int .i64 pr, .int .u32 fr, .int .u32 to, .slice A1 on c1, .slice A2 dn c2] := by
      unfold Pk.cs; rw [hqo, hqd, hq]
    have qa : Only [] w4 (w4.alloc (.cells q.cs.toArray 26)) := (Only.refl [] w4).alloc _
    have hbase : w.heap.size ≤ w4.heap.size := by omega
    rw [← hcs]
    refine ⟨_, 0, [q], rfl, .inr ⟨rfl, [], q, rfl, (fun k hk => absurd hk (by simp)), ⟨?_, ?_, ?_⟩, by rw [hq], ?_⟩, ?_, ?_, Q4.out.trans qa⟩
    · rw [hq]; simp [dat]
    · rw [hqd, hq]; exact HCk.out
    · rw [hqo, hqd]; omega
    · unfold dat; rw [hq]; simp
    · have h9 := World.ownsRow_lit (base := w.heap.size) (e := 26) (size := 11) w4 q.cs.toArray 1 hbase (by unfold maxLen; omega) rfl
      simpa [pcs] using h9
    · intro p hp
      rw [show p = q from by simpa using hp]
      have b1 : DK w.heap.size w4 q.oA q.o.length q.oc q.o := by rw [hqo, hq]; exact DK.of_own H1.out
      have b2 : DK w.heap.size w4 q.dA q.d.length q.dc q.d := by rw [hqd, hq]; exact DK.of_own H2.out
      exact ⟨b1.keep (KK.of_nil qa hbase), b2.keep (KK.of_nil qa hbase)⟩
  cases wh with
  | true =>
    go_wp2_with fail
    go_ret2
    exact ⟨.slice none 0 0, 5, [], rfl, .inl ⟨by decide, rfl, rfl⟩, World.ownsRow_nil _ _ _ _, (fun p hp => by cases hp), Q3.out⟩
  | false =>
    obtain ⟨W4, hW4⟩ : ∃ W4, w3.alloc (.cells #[.int .i64 sv, .int .i64 pid, .bool false, .bool mo, .int .i64 off, .int .i64 lf, .int .i64 pr, .int .u32 fr, .int .u32 to, .slice oA on oc, .slice dA dn dc] 26) = W4 := ⟨_, rfl⟩
    have O4 : Hid (Only [] w3 W4) := hid (by rw [← hW4]; exact (Only.refl [] w3).alloc _)
    have R4 : Hid (Ob W4 w3.heap.size 26 #[.int .i64 sv, .int .i64 pid, .bool false, .bool mo, .int .i64 off, .int .i64 lf, .int .i64 pr, .int .u32 fr, .int .u32 to, .slice oA on oc, .slice dA dn dc]) := hid (by rw [← hW4]; exact Ob.new _ _ _)
    have hs4 : w3.heap.size < W4.heap.size := R4.out.lt
    have Q4 := hid (Q3.out.trans O4.out)
    have X4 := hid (C3.out.only O4.out (by simp))
    obtain ⟨mm, hmm⟩ : ∃ mm : Nat, m = (mm : Int) := ⟨m.toNat, by omega⟩
    subst hmm
    go_wp2_with fail
    clear k0 k1 k2 k3 k4 k5 k6 k7 k8 k9 k10 hW4
    obtain ⟨g9, hg9⟩ : ∃ g9, w3.heap.size = g9 := ⟨_, rfl⟩
    rw [hg9] at R4 hs4 hs3
    rw [hg9]
    obtain ⟨B1, hB1⟩ : ∃ B1, W4.heap.size = B1 := ⟨_, rfl⟩
    have HgX : Hid (w.heap.size < g9) := hid hs3
    have HgB : Hid (w.heap.size ≤ g9) := hid (by omega)
    have HgV : Hid (g9 < B1) := hid (by omega)
    have HB4 : Hid (B1 ≤ W4.heap.size) := hid (by omega)
    clear hg9 hB1 hs3 hs4 C3 O4
    go_loopg [8, 10, 11] (d.length + 1) (fun gk vo v10 v11 wr => ∃ (v : Value) (M : List Pk) (of2 : Int) (rA : Option Addr) (rc : Nat) (o2 : List Int) (eA : Option Addr) (ec : Nat) (d2 : List Int), v = vo ∧ Hid (d2.length < gk) ∧ Hid (Ob wr g9 26 #[.int .i64 sv, .int .i64 pid, .bool false, .bool mo, .int .i64 of2, .int .i64 lf, .int .i64 pr, .int .u32 fr, .int .u32 to, .slice rA o2.length rc, .slice eA d2.length ec]) ∧ Hid (Ob wr w.heap.size 26 #[.int .i64 sv, .int .i64 pid, .bool false, .bool mo, .int .i64 off, .int .i64 lf, .int .i64 pr, .int .u32 fr, .int .u32 to, .slice oA on oc, .slice dA dn dc]) ∧ Hid (wr.ownsRow B1 26 11 v M.length (pcs M)) ∧ Hid (PDs w.heap.size wr M) ∧ Hid (DK w.heap.size wr rA o2.length rc o2) ∧ Hid (DK w.heap.size wr eA d2.length ec d2) ∧ Hid (Ofs o2 true) ∧ Hid (o2.length ≤ on) ∧ Hid (InvM off mm M) ∧ Hid (dat M ++ d2 = d) ∧ Hid (of2 = off + ((dat M).length : Int) ∧ (dat M).length % 8 = 0 ∧ (0 < d2.length ∨ (dat M).length = 0) ∧ 8 * M.length ≤ (dat M).length) ∧ Hid (Only [] w wr) ∧ Hid (B1 ≤ wr.heap.size))
    case atStart => exact ⟨.slice none 0 0, [], off, oA, oc, o, dA, dc, d, rfl, hid (by omega), hid (by rw [Hon.out, Hdn.out]; exact R4.out), X4, hid (World.ownsRow_nil _ _ _ _), hid (fun p hp => by cases hp), hid (by rw [Hon.out]; exact (DK.of_arg HO.out (Nat.le_refl _) hnc HCo.out HZo.out).keep (KK.of_nil Q4.out (Nat.le_refl _))), hid (by rw [Hdn.out]; exact (DK.of_arg HD.out (Nat.le_refl _) hdnc HCd.out HZd.out).keep (KK.of_nil Q4.out (Nat.le_refl _))), HOf, hid (by rw [Hon.out]; exact Nat.le_refl _), hid (fun k hk => absurd hk (by simp)), hid (by simp [dat]), hid ⟨by simp [dat], by simp [dat], (.inr (by simp [dat])), by simp⟩, Q4, HB4⟩
    case round =>
      clear R4 X4 Q4 HB4
      obtain ⟨v, M, of2, rA, rc, o2, eA, ec, d2, rfl, HGk, HR, HBx, HV, HPD, HOo, HEd, HOf2, HOl, HIv, HDt, HOff, QR, HB⟩ := hrel
      have hol : o2.length ≤ 40 := by have := HOl.out; omega
      have hl2 := hl_bd o2.length
      obtain ⟨R, hR⟩ : ∃ R : Nat, (mm : Int) - ((hl o2.length : Nat) : Int) = (R : Int) := ⟨mm - hl o2.length, by omega⟩
      have HRR := hid hR
      have hR8 : 8 ≤ R := by have : hl o2.length ≤ 60 := by unfold hl; omega
                             omega
      have hRm : R + hl o2.length = mm := by omega
      have hdl : d2.length ≤ dn := by have h9 := congrArg List.length HDt.out; rw [List.length_append, Hdn.out] at h9; omega
      have hdd : (dat M).length + d2.length = dn := by have h9 := congrArg List.length HDt.out; rwa [List.length_append, Hdn.out] at h9
      have HDD := hid hdd
      have HRm := hid hRm
      have ks9 := HR.out.cell 9; have ks10 := HR.out.cell 10
      clear hRm hdd hl2
      go_wp2_with fail
      refine (fhead1 wr rA o2.length rc (by omega)).mono ?_
      rintro x w5 ⟨rfl, hw5⟩
      obtain rfl := hw5.symm
      clear hw5
      have ks0 := HR.out.cell 0; have ks1 := HR.out.cell 1; have ks2 := HR.out.cell 2; have ks3 := HR.out.cell 3; have ks4 := HR.out.cell 4; have ks5 := HR.out.cell 5; have ks6 := HR.out.cell 6; have ks7 := HR.out.cell 7; have ks8 := HR.out.cell 8
      by_cases hfit2 : d2.length ≤ R
      case pos =>
        have hfz : (d2.length : Int) ≤ (R : Int) := by omega
        go_wp2_with fail
        refine (fclone1 wr sv pid false mo of2 lf pr fr to rA o2.length rc eA d2.length ec o2 d2 HOo.out.rd HOo.out.2.2.2.1 HEd.out.rd HEd.out.2.2.2.1 (by omega) (by omega)).mono ?_
        rintro x w6 ⟨A1, c1, A2, c2, rfl, h1, h2, o6⟩
        obtain ⟨q, hq⟩ : ∃ q : Pk, q = ⟨sv, pid, false, mo, of2, lf, pr, fr, to, A1, c1, o2, A2, c2, d2⟩ := ⟨_, rfl⟩
        have HQq := hid hq
        have hcs : q.cs.toArray = #[.int .i64 sv, .int .i64 pid, .bool false, .bool mo, .int .i64 of2, .int .i64 lf, .int .i64 pr, .int .u32 fr, .int .u32 to, .slice A1 o2.length c1, .slice A2 d2.length c2] := by unfold Pk.cs; rw [hq]
        have hOne : RdS (w6.alloc (.cells #[.int .i64 sv, .int .i64 pid, .bool false, .bool mo, .int .i64 of2, .int .i64 lf, .int .i64 pr, .int .u32 fr, .int .u32 to, .slice A1 o2.length c1, .slice A2 d2.length c2] 26)) (some ⟨w6.heap.size, 0, none⟩) 1 11 q.cs := by rw [← hcs]; exact rdS_pk w6 q
        have HOne := hid hOne
        have q7 : Only [] w6 (w6.alloc (.cells #[.int .i64 sv, .int .i64 pid, .bool false, .bool mo, .int .i64 of2, .int .i64 lf, .int .i64 pr, .int .u32 fr, .int .u32 to, .slice A1 o2.length c1, .slice A2 d2.length c2] 26)) := (Only.refl [] w6).alloc _
        have HVa := hid (own_only_nil (own_only_nil HV.out o6) q7)
        have hMl : M.length ≤ 100000 := by
          have h9 := HOff.out.2.2.2
          have h8 := HDD.out
          omega
        have hsz6 : B1 ≤ (w6.alloc (.cells #[.int .i64 sv, .int .i64 pid, .bool false, .bool mo, .int .i64 of2, .int .i64 lf, .int .i64 pr, .int .u32 fr, .int .u32 to, .slice A1 o2.length c1, .slice A2 d2.length c2] 26)).heap.size := by have := HB.out; have := o6.size; have := q7.size; omega
        have H1 := hid h1; have H2 := hid h2
        have Q6 := hid (QR.out.trans (o6.trans q7))
        have hb0 := Q6.out.size
        have KA : KK w.heap.size wr (w6.alloc (.cells #[.int .i64 sv, .int .i64 pid, .bool false, .bool mo, .int .i64 of2, .int .i64 lf, .int .i64 pr, .int .u32 fr, .int .u32 to, .slice A1 o2.length c1, .slice A2 d2.length c2] 26)) := KK.of_nil (o6.trans q7) QR.out.size
        have K67 : KK w.heap.size w6 (w6.alloc (.cells #[.int .i64 sv, .int .i64 pid, .bool false, .bool mo, .int .i64 of2, .int .i64 lf, .int .i64 pr, .int .u32 fr, .int .u32 to, .slice A1 o2.length c1, .slice A2 d2.length c2] 26)) := KK.of_nil q7 (Nat.le_trans QR.out.size o6.size)
        clear ks0 ks1 ks2 ks3 ks4 ks5 ks6 ks7 ks8 ks9 ks10 h1 h2 hq hOne hcs
        go_wp2_with (at_builtin; refine wpList_appS _ rfl (.tmp 52) (.tmp 55) _ rfl elemPk B1 v M.length (pcs M) rfl HVa.out (some ⟨w6.heap.size, 0, none⟩) 1 1 q.cs rfl HOne.out (by intro e; cases e) (.inr ⟨_, _, rfl⟩) (by omega) (by unfold maxLen; omega) hsz6 ?_)
        intro v7 w7 hv7 hg7 hb7
        have HV7 : Hid (w7.ownsRow B1 26 11 v7 (M ++ [q]).length (pcs (M ++ [q]))) := hid (by rw [pcs_app, List.length_append]; simpa [pcs] using hv7)
        have K7 := KK.of_grown (base := w.heap.size) HVa.out (by decide) (by have := HgV.out; have := HgB.out; omega) hb0 hg7
        have Q7 := hid (Q6.out.of_grown hg7 (fun i hi => .inr (by have := (own_lt HVa.out i hi).1; have := HgV.out; have := HgB.out; omega)))
        clear hv7 hg7 hb7
        go_wp2_with fail
        go_ret2
        refine ⟨v7, 0, M ++ [q], rfl, .inr ⟨rfl, M, q, rfl, HIv.out, ⟨?_, ?_, ?_⟩, by rw [HQq.out], ?_⟩, own_mono HV7.out (by have := HgV.out; have := HgB.out; omega), ?_, Q7.out⟩
        · rw [List.take_append_of_le_length (Nat.le_refl _), List.take_length, HQq.out]; exact HOff.out.1
        · rw [HQq.out]; show chk sv pid of2 lf pr o2 d2.length = 0; exact chk_piece HCk.out HOf2.out (by have := HOl.out; have := Hon.out; omega) HOff.out.1 (by have := HDD.out; omega) HOff.out.2.1 HOff.out.2.2.1
        · rw [HQq.out]; have := HRm.out; show hl o2.length + d2.length ≤ mm; omega
        · rw [dat_snoc, HQq.out]; exact HDt.out
        · refine PDs.add ((HPD.out.keep KA).keep K7) ?_ ?_
          · rw [HQq.out]; exact ((DK.of_own H1.out).keep K67).keep K7
          · rw [HQq.out]; exact ((DK.of_own H2.out).keep K67).keep K7
      cases gk with
      | zero => exact absurd HGk.out (by omega)
      | succ f =>
        have hfz : ¬ (d2.length : Int) ≤ (R : Int) := by omega
        obtain ⟨Nn, hNn⟩ : ∃ Nn : Nat, R / 8 * 8 = Nn := ⟨_, rfl⟩
        have hNz : (R : Int) / 8 * 8 = (Nn : Int) := by omega
        have hN8 : 8 ≤ Nn := by omega
        have hNR : Nn ≤ R := by omega
        have HN8 : Hid (Nn % 8 = 0) := hid (by omega)
        have hNl : Nn < d2.length := by omega
        obtain ⟨eb, eo, rfl, _⟩ := HEd.out.rd.cells (by omega)
        have hec : d2.length ≤ ec := HEd.out.2.1
        have hecm : ec ≤ 9223372036854775807 := by have h9 := HEd.out.2.2.1; unfold maxLen at h9; exact h9
        have g1 : (Nn : Int) ≤ (ec : Int) := by omega
        have g2 : ¬ (ec : Int) = (Nn : Int) := by omega
        have g3 : (Nn : Int) ≤ (d2.length : Int) := by omega
        obtain ⟨W12, hW12⟩ : ∃ W12, wr.alloc (.cells #[.int .i64 sv, .int .i64 pid, .bool false, .bool true, .int .i64 of2, .int .i64 lf, .int .i64 pr, .int .u32 fr, .int .u32 to, .slice rA o2.length rc, .slice (some ⟨eb, eo, none⟩) Nn ec] 26) = W12 := ⟨_, rfl⟩
        have O12 : Hid (Only [] wr W12) := hid (by rw [← hW12]; exact (Only.refl [] wr).alloc _)
        have N12 : Hid (Ob W12 wr.heap.size 26 #[.int .i64 sv, .int .i64 pid, .bool false, .bool true, .int .i64 of2, .int .i64 lf, .int .i64 pr, .int .u32 fr, .int .u32 to, .slice rA o2.length rc, .slice (some ⟨eb, eo, none⟩) Nn ec]) := hid (by rw [← hW12]; exact Ob.new _ _ _)
        have z0 := N12.out.cell 0; have z1 := N12.out.cell 1; have z2 := N12.out.cell 2; have z3 := N12.out.cell 3; have z4 := N12.out.cell 4; have z5 := N12.out.cell 5; have z6 := N12.out.cell 6; have z7 := N12.out.cell 7; have z8 := N12.out.cell 8; have z9 := N12.out.cell 9; have z10 := N12.out.cell 10
        have y10 := (HR.out.alloc (.cells #[.int .i64 sv, .int .i64 pid, .bool false, .bool mo, .int .i64 of2, .int .i64 lf, .int .i64 pr, .int .u32 fr, .int .u32 to, .slice rA o2.length rc, .slice (some ⟨eb, eo, none⟩) d2.length ec] 26)).cell 10
        clear hNn
        go_wp2_with fail
        clear y10
        have K12 : KK w.heap.size wr W12 := KK.of_nil O12.out QR.out.size
        refine (fclone1 W12 sv pid false true of2 lf pr fr to rA o2.length rc (some ⟨eb, eo, none⟩) Nn ec o2 (d2.take Nn) (HOo.out.keep K12).rd HOo.out.2.2.2.1 ((HEd.out.keep K12).take (by omega)).rd (by intro e; cases e) (by omega) (by omega)).mono ?_
        rintro x w6 ⟨A1, c1, A2, c2, rfl, h1, h2, o6⟩
        have htl : (d2.take Nn).length = Nn := by rw [List.length_take]; omega
        obtain ⟨q, hq⟩ : ∃ q : Pk, q = ⟨sv, pid, false, true, of2, lf, pr, fr, to, A1, c1, o2, A2, c2, d2.take Nn⟩ := ⟨_, rfl⟩
        have HQq := hid hq
        have hcs : q.cs.toArray = #[.int .i64 sv, .int .i64 pid, .bool false, .bool true, .int .i64 of2, .int .i64 lf, .int .i64 pr, .int .u32 fr, .int .u32 to, .slice A1 o2.length c1, .slice A2 Nn c2] := by unfold Pk.cs; rw [hq]; simp only [htl]
        have HOne : Hid (RdS (w6.alloc (.cells #[.int .i64 sv, .int .i64 pid, .bool false, .bool true, .int .i64 of2, .int .i64 lf, .int .i64 pr, .int .u32 fr, .int .u32 to, .slice A1 o2.length c1, .slice A2 Nn c2] 26)) (some ⟨w6.heap.size, 0, none⟩) 1 11 q.cs) := hid (by rw [← hcs]; exact rdS_pk w6 q)
        have q7 : Only [] w6 (w6.alloc (.cells #[.int .i64 sv, .int .i64 pid, .bool false, .bool true, .int .i64 of2, .int .i64 lf, .int .i64 pr, .int .u32 fr, .int .u32 to, .slice A1 o2.length c1, .slice A2 Nn c2] 26)) := (Only.refl [] w6).alloc _
        have oo := (O12.out.trans o6).trans q7
        have HVa := hid (own_only_nil HV.out oo)
        have hMl : M.length ≤ 100000 := by
          have h9 := HOff.out.2.2.2
          have h8 := HDD.out
          omega
        have hsz6 : B1 ≤ (w6.alloc (.cells #[.int .i64 sv, .int .i64 pid, .bool false, .bool true, .int .i64 of2, .int .i64 lf, .int .i64 pr, .int .u32 fr, .int .u32 to, .slice A1 o2.length c1, .slice A2 Nn c2] 26)).heap.size := Nat.le_trans HB.out oo.size
        have H1 := hid h1; have H2 := hid h2
        have HTl := hid htl
        have Q6 := hid (QR.out.trans oo)
        have hb0 := Q6.out.size
        have KA : KK w.heap.size wr (w6.alloc (.cells #[.int .i64 sv, .int .i64 pid, .bool false, .bool true, .int .i64 of2, .int .i64 lf, .int .i64 pr, .int .u32 fr, .int .u32 to, .slice A1 o2.length c1, .slice A2 Nn c2] 26)) := KK.of_nil oo QR.out.size
        have K67 : KK w.heap.size w6 (w6.alloc (.cells #[.int .i64 sv, .int .i64 pid, .bool false, .bool true, .int .i64 of2, .int .i64 lf, .int .i64 pr, .int .u32 fr, .int .u32 to, .slice A1 o2.length c1, .slice A2 Nn c2] 26)) := KK.of_nil q7 (Nat.le_trans QR.out.size (O12.out.trans o6).size)
        have HRa := hid (HR.out.only oo (by simp))
        have HBa := hid (HBx.out.only oo (by simp))
        clear ks0 ks1 ks2 ks3 ks4 ks5 ks6 ks7 ks8 ks9 ks10 z0 z1 z2 z3 z4 z5 z6 z7 z8 z9 z10 h1 h2 hq hcs hW12 htl O12 N12 K12
        go_wp2_with (at_builtin; refine wpList_appS _ rfl (.tmp 67) (.tmp 70) _ rfl elemPk B1 v M.length (pcs M) rfl HVa.out (some ⟨w6.heap.size, 0, none⟩) 1 1 q.cs rfl HOne.out (by intro e; cases e) (.inr ⟨_, _, rfl⟩) (by omega) (by unfold maxLen; omega) hsz6 ?_)
        intro v9 w9 hv9 hg9 hb9
        have HV9 : Hid (w9.ownsRow B1 26 11 v9 (M ++ [q]).length (pcs (M ++ [q]))) := hid (by rw [pcs_app, List.length_append]; simpa [pcs] using hv9)
        have K9 := KK.of_grown (base := w.heap.size) HVa.out (by decide) (by have := HgV.out; have := HgB.out; omega) hb0 hg9
        have Q9 := hid (Q6.out.of_grown hg9 (fun i hi => .inr (by have := (own_lt HVa.out i hi).1; have := HgV.out; have := HgB.out; omega)))
        have HR9w : Hid (Ob w9 g9 26 #[.int .i64 sv, .int .i64 pid, .bool false, .bool mo, .int .i64 of2, .int .i64 lf, .int .i64 pr, .int .u32 fr, .int .u32 to, .slice rA o2.length rc, .slice (some ⟨eb, eo, none⟩) d2.length ec]) := hid ((hg9.block _ HRa.out.lt (fun e => by have := (own_lt HVa.out _ e.symm).1; have := HgV.out; omega)).trans HRa.out)
        have HBx9 : Hid (Ob w9 w.heap.size 26 #[.int .i64 sv, .int .i64 pid, .bool false, .bool mo, .int .i64 off, .int .i64 lf, .int .i64 pr, .int .u32 fr, .int .u32 to, .slice oA on oc, .slice dA dn dc]) := hid ((hg9.block _ HBa.out.lt (fun e => by have := (own_lt HVa.out _ e.symm).1; have := HgV.out; have := HgB.out; omega)).trans HBa.out)
        have HB9 : Hid (B1 ≤ w9.heap.size) := hid (Nat.le_trans hsz6 hg9.size)
        have HPD9 : Hid (PDs w.heap.size w9 (M ++ [q])) := hid (PDs.add ((HPD.out.keep KA).keep K9) (by rw [HQq.out]; exact ((DK.of_own H1.out).keep K67).keep K9) (by rw [HQq.out]; show DK _ _ A2 (d2.take Nn).length c2 (d2.take Nn); rw [HTl.out]; exact ((DK.of_own H2.out).keep K67).keep K9))
        have hnec : ¬ ec = Nn := by omega
        have HEd9 : Hid (DK w.heap.size w9 (some ⟨eb, eo, none⟩) d2.length ec d2) := hid ((HEd.out.keep KA).keep K9)
        have HIv9 : Hid (InvM off mm (M ++ [q])) := hid (HIv.out.add ⟨by rw [List.take_append_of_le_length (Nat.le_refl _), List.take_length, HQq.out]; exact HOff.out.1, by rw [HQq.out]; show chk sv pid of2 lf pr o2 (d2.take Nn).length = 0; rw [HTl.out]; exact chk_piece HCk.out HOf2.out (by have := HOl.out; have := Hon.out; omega) HOff.out.1 (by have := HDD.out; omega) HOff.out.2.1 (.inl (by omega)), by rw [HQq.out]; show hl o2.length + (d2.take Nn).length ≤ mm; rw [HTl.out]; have := HRm.out; omega⟩ (by rw [HQq.out]) (by rw [HQq.out]; show (d2.take Nn).length % 8 = 0; rw [HTl.out]; exact HN8.out))
        have HDt9 : Hid (dat (M ++ [q]) ++ d2.drop Nn = d) := hid (by rw [dat_snoc, HQq.out, List.append_assoc]; show dat M ++ (d2.take Nn ++ d2.drop Nn) = d; rw [List.take_append_drop]; exact HDt.out)
        have HOff9 : Hid (of2 + (Nn : Int) = off + ((dat (M ++ [q])).length : Int) ∧ (dat (M ++ [q])).length % 8 = 0 ∧ (0 < (d2.drop Nn).length ∨ (dat (M ++ [q])).length = 0) ∧ 8 * (M ++ [q]).length ≤ (dat (M ++ [q])).length) := hid (by
          have h4 := HOff.out.2.2.2
          have h1 := HOff.out.1
          have h2 := HOff.out.2.1
          have h3 := HN8.out
          have h5 : (dat (M ++ [q])).length = (dat M).length + Nn := by rw [dat_snoc, List.length_append, HQq.out]; show _ + (d2.take Nn).length = _; rw [HTl.out]
          have h6 : (M ++ [q]).length = M.length + 1 := by simp
          rw [h5, h6, List.length_drop]
          omega)
        have HOb : Hid (0 ≤ of2 ∧ of2 + Nn ≤ 65535) := hid (by
          have h1 := HOff.out.1
          have h2 := HNu.out
          unfold Nums at h2
          have h3 := HLL.out
          have h4 := HDD.out
          omega)
        clear hv9 hg9 hb9 HR HRa HBa HBx HV HVa HPD HEd HIv HDt HOff KA K67 K9 Q6 QR hsz6 hb0 HOne q7 oo o6
        go_wp2_with fail
        refine wp_region_noPanic ?_
        refine rgn.regionT (R := Same w.heap.size) (by kernel_rfl) (Same.refl w.heap.size) (Same.trans (g := w.heap.size)) (fun _ _ _ _ _ h => h) (.y 0 (.y 2 (.y 4 (.y 6 (.y 8 (.y 9 (.c 1 5 10 (.y 3 (.b 5 10 (.y 7 (.y 11 (.e 10 (.e 12 (.y 13 (.e 14 (.y 15 (.e 16 .z)))))))) (.e 5 (.y 7 (.y 11 (.e 12 (.y 13 (.e 14 (.y 15 (.e 16 .z)))))))))) (.y 7 (.b 1 10 (.y 3 (.y 11 (.e 10 (.e 12 (.y 13 (.e 14 (.y 15 (.e 16 .z)))))))) (.e 1 (.y 3 (.y 11 (.e 12 (.y 13 (.e 14 (.y 15 (.e 16 .z)))))))))) (.b 1 5 (.y 3 (.e 5 (.y 7 (.y 11 (.e 12 (.y 13 (.e 14 (.y 15 (.e 16 .z))))))))) (.y 7 (.e 1 (.y 3 (.y 11 (.e 12 (.y 13 (.e 14 (.y 15 (.e 16 .z))))))))))))))))) (by kernel_rfl) (fun W hWd => ?_)
        have HWd := hid hWd; clear hWd
        have HQ : Hid (Only [] w9 W) := hid (Only.eq_drew (Only.refl [] _) HWd.out)
        have HBx := hid (HBx9.out.only HQ.out (by simp)); have HR9 := hid (HR9w.out.only HQ.out (by simp))
        have HX0 := HBx
        have hwN : IntKind.i64.wrap (of2 + (Nn : Int)) = of2 + (Nn : Int) := i64_in _ (by have := HOb.out; omega)
        clear HWd
        refine rgn.Walk.ys (v := ?_) rfl rfl rfl ?_ ?_
        rotate_left 1
        · intro W' hW'
          go_simp
          try with_reducible rfl
        try simp only [Act.put, List.setIfInBounds_toArray, List.set_cons_zero, List.set_cons_succ]
        refine rgn.Walk.ys (v := ?_) rfl rfl rfl ?_ ?_
        rotate_left 1
        · intro W' hW'
          go_simp
          try with_reducible rfl
        try simp only [Act.put, List.setIfInBounds_toArray, List.set_cons_zero, List.set_cons_succ]
        refine rgn.Walk.ys (v := ?_) rfl rfl rfl ?_ ?_
        rotate_left 1
        · intro W' hW'
          go_simp
          try with_reducible rfl
        try simp only [Act.put, List.setIfInBounds_toArray, List.set_cons_zero, List.set_cons_succ]
        refine rgn.Walk.ys (v := ?_) rfl rfl rfl ?_ ?_
        rotate_left 1
        · intro W' hW'
          go_simp
          try with_reducible rfl
        try simp only [Act.put, List.setIfInBounds_toArray, List.set_cons_zero, List.set_cons_succ]
        refine rgn.Walk.ys (v := ?_) rfl rfl rfl ?_ ?_
        rotate_left 1
        · intro W' hW'
          go_simp
          try with_reducible rfl
        try simp only [Act.put, List.setIfInBounds_toArray, List.set_cons_zero, List.set_cons_succ]
        refine rgn.Walk.ys (v := ?_) rfl rfl rfl ?_ ?_
        rotate_left 1
        · intro W' hW'
          have q0 := (HX0.out.same hW').cell 9
          go_simp
          try with_reducible rfl
        try simp only [Act.put, List.setIfInBounds_toArray, List.set_cons_zero, List.set_cons_succ]
        refine rgn.Walk.cs ?_ ?_ ?_
        · refine rgn.stepE rfl rfl (fun K hK => ?_)
          have qq := HR9.out.cell 10
          go_simp
          refine hK _ _ (Same.refl _ _) ?_
          clear hK K qq
          try simp only [Act.put, List.setIfInBounds_toArray, List.set_cons_zero, List.set_cons_succ]
          refine rgn.Walk.ys (v := ?_) rfl rfl rfl ?_ ?_
          rotate_left 1
          · intro W' hW'
            go_simp
            try rw [if_neg hnec]
            try with_reducible rfl
          try simp only [Act.put, List.setIfInBounds_toArray, List.set_cons_zero, List.set_cons_succ]
          refine rgn.Walk.bs ?_ ?_
          · refine rgn.stepE rfl rfl (fun K hK => ?_)
            have qq := HR9.out.cell 4
            go_simp
            refine hK _ _ (Same.refl _ _) ?_
            clear hK K qq
            try simp only [Act.put, List.setIfInBounds_toArray, List.set_cons_zero, List.set_cons_succ]
            refine rgn.Walk.ys (v := ?_) rfl rfl rfl ?_ ?_
            rotate_left 1
            · intro W' hW'
              go_simp
              try with_reducible rfl
            try simp only [Act.put, List.setIfInBounds_toArray, List.set_cons_zero, List.set_cons_succ]
            refine rgn.Walk.ys (v := ?_) rfl rfl rfl ?_ ?_
            rotate_left 1
            · intro W' hW'
              go_simp
              try with_reducible rfl
            try simp only [Act.put, List.setIfInBounds_toArray, List.set_cons_zero, List.set_cons_succ]
            refine rgn.Walk.es ?_
            refine rgn.stepE rfl rfl (fun K hK => ?_)
            go_simp
            refine (copied1 _ oA on oc o (HO.out.only_nil (Q9.out.trans HQ.out)) hnc HCo.out (by omega) HOf.out).mono ?_
            rintro x w8 ⟨vu, u, rfl, hu, hofs, hul, o8⟩
            refine hK _ _ (Same.only o8 HBx.out.lt) ?_
            clear hK K
            obtain ⟨A7, c7, rfl, _, _⟩ := own_form hu
            have HOu := hid (show DK w.heap.size _ A7 u.length c7 u from DK.of_own hu)
            have HUf := hid hofs
            have HUl := hid hul
            have HQ := hid (HQ.out.trans o8); have HBx := hid (HBx.out.only o8 (by simp)); have HR9 := hid (HR9.out.only o8 (by simp))
            have HR9p := HR9
            clear hu hofs hul o8
            try simp only [Act.put, List.setIfInBounds_toArray, List.set_cons_zero, List.set_cons_succ]
            refine rgn.Walk.es ?_
            refine rgn.stepE rfl rfl (fun K hK => ?_)
            have qq := HR9.out.cell 10; have ff := HR9.out.frozen 10
            go_simp
            refine hK _ _ (Same.of_onlyS ((Only.refl [g9] _).setCell (p := ⟨g9, 10, none⟩) (Or.inl (by simp)) (.slice (some ⟨eb, eo + Nn, none⟩) (d2.length - Nn) (ec - Nn))) HBx.out.lt (by have := HgX.out; simp; omega)) ?_
            clear hK K qq ff
            have HBx := hid (HBx.out.far (p := ⟨g9, 10, none⟩) (by have := HgX.out; show w.heap.size ≠ g9; omega) (.slice (some ⟨eb, eo + Nn, none⟩) (d2.length - Nn) (ec - Nn)))
            have HT := hid ((Only.refl [g9] w8).setCell (p := ⟨g9, 10, none⟩) (Or.inl (by simp)) (.slice (some ⟨eb, eo + Nn, none⟩) (d2.length - Nn) (ec - Nn)))
            have HR9n : Hid (Ob _ g9 26 #[.int .i64 sv, .int .i64 pid, .bool false, .bool mo, .int .i64 of2, .int .i64 lf, .int .i64 pr, .int .u32 fr, .int .u32 to, .slice rA o2.length rc, .slice (some ⟨eb, eo + Nn, none⟩) (d2.length - Nn) (ec - Nn)]) := hid (HR9.out.set 10 (.slice (some ⟨eb, eo + Nn, none⟩) (d2.length - Nn) (ec - Nn)))
            clear HR9
            have HR9 := HR9n
            clear HR9n
            try simp only [Act.put, List.setIfInBounds_toArray, List.set_cons_zero, List.set_cons_succ]
            refine rgn.Walk.ys (v := ?_) rfl rfl rfl ?_ ?_
            rotate_left 1
            · intro W' hW'
              go_simp
              try with_reducible rfl
            try simp only [Act.put, List.setIfInBounds_toArray, List.set_cons_zero, List.set_cons_succ]
            refine rgn.Walk.es ?_
            refine rgn.stepE rfl rfl (fun K hK => ?_)
            have qq := HR9.out.cell 4; have ff := HR9.out.frozen 4
            go_simp
            refine hK _ _ (Same.of_onlyS ((Only.refl [g9] _).setCell (p := ⟨g9, 4, none⟩) (Or.inl (by simp)) (.int .i64 (of2 + (Nn : Int)))) HBx.out.lt (by have := HgX.out; simp; omega)) ?_
            clear hK K qq ff
            have HBx := hid (HBx.out.far (p := ⟨g9, 4, none⟩) (by have := HgX.out; show w.heap.size ≠ g9; omega) (.int .i64 (of2 + (Nn : Int))))
            have HT := hid (HT.out.setCell (p := ⟨g9, 4, none⟩) (Or.inl (by simp)) (.int .i64 (of2 + (Nn : Int))))
            have HR9n : Hid (Ob _ g9 26 #[.int .i64 sv, .int .i64 pid, .bool false, .bool mo, .int .i64 (of2 + (Nn : Int)), .int .i64 lf, .int .i64 pr, .int .u32 fr, .int .u32 to, .slice rA o2.length rc, .slice (some ⟨eb, eo + Nn, none⟩) (d2.length - Nn) (ec - Nn)]) := hid (HR9.out.set 4 (.int .i64 (of2 + (Nn : Int))))
            clear HR9
            have HR9 := HR9n
            clear HR9n
            try simp only [Act.put, List.setIfInBounds_toArray, List.set_cons_zero, List.set_cons_succ]
            refine rgn.Walk.ys (v := ?_) rfl rfl rfl ?_ ?_
            rotate_left 1
            · intro W' hW'
              go_simp
              try with_reducible rfl
            try simp only [Act.put, List.setIfInBounds_toArray, List.set_cons_zero, List.set_cons_succ]
            refine rgn.Walk.es ?_
            refine rgn.stepE rfl rfl (fun K hK => ?_)
            have qq := HR9.out.cell 9; have ff := HR9.out.frozen 9
            go_simp
            refine hK _ _ (Same.of_onlyS ((Only.refl [g9] _).setCell (p := ⟨g9, 9, none⟩) (Or.inl (by simp)) (.slice A7 u.length c7)) HBx.out.lt (by have := HgX.out; simp; omega)) ?_
            clear hK K qq ff
            have HBx := hid (HBx.out.far (p := ⟨g9, 9, none⟩) (by have := HgX.out; show w.heap.size ≠ g9; omega) (.slice A7 u.length c7))
            have HT := hid (HT.out.setCell (p := ⟨g9, 9, none⟩) (Or.inl (by simp)) (.slice A7 u.length c7))
            have HR9n : Hid (Ob _ g9 26 #[.int .i64 sv, .int .i64 pid, .bool false, .bool mo, .int .i64 (of2 + (Nn : Int)), .int .i64 lf, .int .i64 pr, .int .u32 fr, .int .u32 to, .slice A7 u.length c7, .slice (some ⟨eb, eo + Nn, none⟩) (d2.length - Nn) (ec - Nn)]) := hid (HR9.out.set 9 (.slice A7 u.length c7))
            clear HR9
            have HR9 := HR9n
            clear HR9n
            try simp only [Act.put, List.setIfInBounds_toArray, List.set_cons_zero, List.set_cons_succ]
            refine rgn.Walk.zs (NoPanic.normal ?_)
            have O3 : Hid (Only [g9] w9 _) := hid ((HQ.out.more (by simp)).trans HT.out)
            have hb8 : w.heap.size ≤ _ := Nat.le_trans Q9.out.size HQ.out.size
            have K8 := KK.of_one HT.out hb8 HR9p.out HgB.out (by decide)
            have K3 := KK.of_one O3.out Q9.out.size HR9w.out HgB.out (by decide)
            have hV9 := own_only HV9.out O3.out (fun i hi hm => by have h1 := (own_lt HV9.out i hi).1; have h2 := HgV.out; simp at hm; omega)
            go_wp2_with fail
            go_roundg f
            case rel => exact ⟨_, M ++ [q], of2 + (Nn : Int), A7, c7, u, some ⟨eb, eo + Nn, none⟩, ec - Nn, d2.drop Nn, rfl, hid (by rw [List.length_drop]; have := HGk.out; omega), hid (by rw [List.length_drop]; exact HR9.out), HBx, hid (by simpa using hV9), hid (HPD9.out.keep K3), hid (HOu.out.keep K8), hid (by rw [List.length_drop]; exact (HEd9.out.drop (by omega)).keep K3), HUf, HUl, HIv9, HDt9, HOff9, hid (Only.fresh Q9.out O3.out (fun i hi => .inr (by have := HgB.out; simp at hi; omega))), hid (Nat.le_trans HB9.out O3.out.size)⟩
            case measure => omega
          · refine rgn.stepE rfl rfl (fun K hK => ?_)
            go_simp
            refine (copied1 _ oA on oc o (HO.out.only_nil (Q9.out.trans HQ.out)) hnc HCo.out (by omega) HOf.out).mono ?_
            rintro x w8 ⟨vu, u, rfl, hu, hofs, hul, o8⟩
            refine hK _ _ (Same.only o8 HBx.out.lt) ?_
            clear hK K
            obtain ⟨A7, c7, rfl, _, _⟩ := own_form hu
            have HOu := hid (show DK w.heap.size _ A7 u.length c7 u from DK.of_own hu)
            have HUf := hid hofs
            have HUl := hid hul
            have HQ := hid (HQ.out.trans o8); have HBx := hid (HBx.out.only o8 (by simp)); have HR9 := hid (HR9.out.only o8 (by simp))
            have HR9p := HR9
            clear hu hofs hul o8
            try simp only [Act.put, List.setIfInBounds_toArray, List.set_cons_zero, List.set_cons_succ]
            refine rgn.Walk.es ?_
            refine rgn.stepE rfl rfl (fun K hK => ?_)
            have qq := HR9.out.cell 4
            go_simp
            refine hK _ _ (Same.refl _ _) ?_
            clear hK K qq
            try simp only [Act.put, List.setIfInBounds_toArray, List.set_cons_zero, List.set_cons_succ]
            refine rgn.Walk.ys (v := ?_) rfl rfl rfl ?_ ?_
            rotate_left 1
            · intro W' hW'
              go_simp
              try with_reducible rfl
            try simp only [Act.put, List.setIfInBounds_toArray, List.set_cons_zero, List.set_cons_succ]
            refine rgn.Walk.ys (v := ?_) rfl rfl rfl ?_ ?_
            rotate_left 1
            · intro W' hW'
              go_simp
              try with_reducible rfl
            try simp only [Act.put, List.setIfInBounds_toArray, List.set_cons_zero, List.set_cons_succ]
            refine rgn.Walk.es ?_
            refine rgn.stepE rfl rfl (fun K hK => ?_)
            have qq := HR9.out.cell 10; have ff := HR9.out.frozen 10
            go_simp
            refine hK _ _ (Same.of_onlyS ((Only.refl [g9] _).setCell (p := ⟨g9, 10, none⟩) (Or.inl (by simp)) (.slice (some ⟨eb, eo + Nn, none⟩) (d2.length - Nn) (ec - Nn))) HBx.out.lt (by have := HgX.out; simp; omega)) ?_
            clear hK K qq ff
            have HBx := hid (HBx.out.far (p := ⟨g9, 10, none⟩) (by have := HgX.out; show w.heap.size ≠ g9; omega) (.slice (some ⟨eb, eo + Nn, none⟩) (d2.length - Nn) (ec - Nn)))
            have HT := hid ((Only.refl [g9] w8).setCell (p := ⟨g9, 10, none⟩) (Or.inl (by simp)) (.slice (some ⟨eb, eo + Nn, none⟩) (d2.length - Nn) (ec - Nn)))
            have HR9n : Hid (Ob _ g9 26 #[.int .i64 sv, .int .i64 pid, .bool false, .bool mo, .int .i64 of2, .int .i64 lf, .int .i64 pr, .int .u32 fr, .int .u32 to, .slice rA o2.length rc, .slice (some ⟨eb, eo + Nn, none⟩) (d2.length - Nn) (ec - Nn)]) := hid (HR9.out.set 10 (.slice (some ⟨eb, eo + Nn, none⟩) (d2.length - Nn) (ec - Nn)))
            clear HR9
            have HR9 := HR9n
            clear HR9n
            try simp only [Act.put, List.setIfInBounds_toArray, List.set_cons_zero, List.set_cons_succ]
            refine rgn.Walk.ys (v := ?_) rfl rfl rfl ?_ ?_
            rotate_left 1
            · intro W' hW'
              go_simp
              try with_reducible rfl
            try simp only [Act.put, List.setIfInBounds_toArray, List.set_cons_zero, List.set_cons_succ]
            refine rgn.Walk.es ?_
            refine rgn.stepE rfl rfl (fun K hK => ?_)
            have qq := HR9.out.cell 4; have ff := HR9.out.frozen 4
            go_simp
            refine hK _ _ (Same.of_onlyS ((Only.refl [g9] _).setCell (p := ⟨g9, 4, none⟩) (Or.inl (by simp)) (.int .i64 (of2 + (Nn : Int)))) HBx.out.lt (by have := HgX.out; simp; omega)) ?_
            clear hK K qq ff
            have HBx := hid (HBx.out.far (p := ⟨g9, 4, none⟩) (by have := HgX.out; show w.heap.size ≠ g9; omega) (.int .i64 (of2 + (Nn : Int))))
            have HT := hid (HT.out.setCell (p := ⟨g9, 4, none⟩) (Or.inl (by simp)) (.int .i64 (of2 + (Nn : Int))))
            have HR9n : Hid (Ob _ g9 26 #[.int .i64 sv, .int .i64 pid, .bool false, .bool mo, .int .i64 (of2 + (Nn : Int)), .int .i64 lf, .int .i64 pr, .int .u32 fr, .int .u32 to, .slice rA o2.length rc, .slice (some ⟨eb, eo + Nn, none⟩) (d2.length - Nn) (ec - Nn)]) := hid (HR9.out.set 4 (.int .i64 (of2 + (Nn : Int))))
            clear HR9
            have HR9 := HR9n
            clear HR9n
            try simp only [Act.put, List.setIfInBounds_toArray, List.set_cons_zero, List.set_cons_succ]
            refine rgn.Walk.ys (v := ?_) rfl rfl rfl ?_ ?_
            rotate_left 1
            · intro W' hW'
              go_simp
              try with_reducible rfl
            try simp only [Act.put, List.setIfInBounds_toArray, List.set_cons_zero, List.set_cons_succ]
            refine rgn.Walk.es ?_
            refine rgn.stepE rfl rfl (fun K hK => ?_)
            have qq := HR9.out.cell 9; have ff := HR9.out.frozen 9
            go_simp
            refine hK _ _ (Same.of_onlyS ((Only.refl [g9] _).setCell (p := ⟨g9, 9, none⟩) (Or.inl (by simp)) (.slice A7 u.length c7)) HBx.out.lt (by have := HgX.out; simp; omega)) ?_
            clear hK K qq ff
            have HBx := hid (HBx.out.far (p := ⟨g9, 9, none⟩) (by have := HgX.out; show w.heap.size ≠ g9; omega) (.slice A7 u.length c7))
            have HT := hid (HT.out.setCell (p := ⟨g9, 9, none⟩) (Or.inl (by simp)) (.slice A7 u.length c7))
            have HR9n : Hid (Ob _ g9 26 #[.int .i64 sv, .int .i64 pid, .bool false, .bool mo, .int .i64 (of2 + (Nn : Int)), .int .i64 lf, .int .i64 pr, .int .u32 fr, .int .u32 to, .slice A7 u.length c7, .slice (some ⟨eb, eo + Nn, none⟩) (d2.length - Nn) (ec - Nn)]) := hid (HR9.out.set 9 (.slice A7 u.length c7))
            clear HR9
            have HR9 := HR9n
            clear HR9n
            try simp only [Act.put, List.setIfInBounds_toArray, List.set_cons_zero, List.set_cons_succ]
            refine rgn.Walk.zs (NoPanic.normal ?_)
            have O3 : Hid (Only [g9] w9 _) := hid ((HQ.out.more (by simp)).trans HT.out)
            have hb8 : w.heap.size ≤ _ := Nat.le_trans Q9.out.size HQ.out.size
            have K8 := KK.of_one HT.out hb8 HR9p.out HgB.out (by decide)
            have K3 := KK.of_one O3.out Q9.out.size HR9w.out HgB.out (by decide)
            have hV9 := own_only HV9.out O3.out (fun i hi hm => by have h1 := (own_lt HV9.out i hi).1; have h2 := HgV.out; simp at hm; omega)
            go_wp2_with fail
            go_roundg f
            case rel => exact ⟨_, M ++ [q], of2 + (Nn : Int), A7, c7, u, some ⟨eb, eo + Nn, none⟩, ec - Nn, d2.drop Nn, rfl, hid (by rw [List.length_drop]; have := HGk.out; omega), hid (by rw [List.length_drop]; exact HR9.out), HBx, hid (by simpa using hV9), hid (HPD9.out.keep K3), hid (HOu.out.keep K8), hid (by rw [List.length_drop]; exact (HEd9.out.drop (by omega)).keep K3), HUf, HUl, HIv9, HDt9, HOff9, hid (Only.fresh Q9.out O3.out (fun i hi => .inr (by have := HgB.out; simp at hi; omega))), hid (Nat.le_trans HB9.out O3.out.size)⟩
            case measure => omega
        · refine rgn.stepE rfl rfl (fun K hK => ?_)
          have qq := HR9.out.cell 4
          go_simp
          refine hK _ _ (Same.refl _ _) ?_
          clear hK K qq
          try simp only [Act.put, List.setIfInBounds_toArray, List.set_cons_zero, List.set_cons_succ]
          refine rgn.Walk.ys (v := ?_) rfl rfl rfl ?_ ?_
          rotate_left 1
          · intro W' hW'
            go_simp
            try with_reducible rfl
          try simp only [Act.put, List.setIfInBounds_toArray, List.set_cons_zero, List.set_cons_succ]
          refine rgn.Walk.bs ?_ ?_
          · refine rgn.stepE rfl rfl (fun K hK => ?_)
            have qq := HR9.out.cell 10
            go_simp
            refine hK _ _ (Same.refl _ _) ?_
            clear hK K qq
            try simp only [Act.put, List.setIfInBounds_toArray, List.set_cons_zero, List.set_cons_succ]
            refine rgn.Walk.ys (v := ?_) rfl rfl rfl ?_ ?_
            rotate_left 1
            · intro W' hW'
              go_simp
              try rw [if_neg hnec]
              try with_reducible rfl
            try simp only [Act.put, List.setIfInBounds_toArray, List.set_cons_zero, List.set_cons_succ]
            refine rgn.Walk.ys (v := ?_) rfl rfl rfl ?_ ?_
            rotate_left 1
            · intro W' hW'
              go_simp
              try with_reducible rfl
            try simp only [Act.put, List.setIfInBounds_toArray, List.set_cons_zero, List.set_cons_succ]
            refine rgn.Walk.es ?_
            refine rgn.stepE rfl rfl (fun K hK => ?_)
            go_simp
            refine (copied1 _ oA on oc o (HO.out.only_nil (Q9.out.trans HQ.out)) hnc HCo.out (by omega) HOf.out).mono ?_
            rintro x w8 ⟨vu, u, rfl, hu, hofs, hul, o8⟩
            refine hK _ _ (Same.only o8 HBx.out.lt) ?_
            clear hK K
            obtain ⟨A7, c7, rfl, _, _⟩ := own_form hu
            have HOu := hid (show DK w.heap.size _ A7 u.length c7 u from DK.of_own hu)
            have HUf := hid hofs
            have HUl := hid hul
            have HQ := hid (HQ.out.trans o8); have HBx := hid (HBx.out.only o8 (by simp)); have HR9 := hid (HR9.out.only o8 (by simp))
            have HR9p := HR9
            clear hu hofs hul o8
            try simp only [Act.put, List.setIfInBounds_toArray, List.set_cons_zero, List.set_cons_succ]
            refine rgn.Walk.es ?_
            refine rgn.stepE rfl rfl (fun K hK => ?_)
            have qq := HR9.out.cell 10; have ff := HR9.out.frozen 10
            go_simp
            refine hK _ _ (Same.of_onlyS ((Only.refl [g9] _).setCell (p := ⟨g9, 10, none⟩) (Or.inl (by simp)) (.slice (some ⟨eb, eo + Nn, none⟩) (d2.length - Nn) (ec - Nn))) HBx.out.lt (by have := HgX.out; simp; omega)) ?_
            clear hK K qq ff
            have HBx := hid (HBx.out.far (p := ⟨g9, 10, none⟩) (by have := HgX.out; show w.heap.size ≠ g9; omega) (.slice (some ⟨eb, eo + Nn, none⟩) (d2.length - Nn) (ec - Nn)))
            have HT := hid ((Only.refl [g9] w8).setCell (p := ⟨g9, 10, none⟩) (Or.inl (by simp)) (.slice (some ⟨eb, eo + Nn, none⟩) (d2.length - Nn) (ec - Nn)))
            have HR9n : Hid (Ob _ g9 26 #[.int .i64 sv, .int .i64 pid, .bool false, .bool mo, .int .i64 of2, .int .i64 lf, .int .i64 pr, .int .u32 fr, .int .u32 to, .slice rA o2.length rc, .slice (some ⟨eb, eo + Nn, none⟩) (d2.length - Nn) (ec - Nn)]) := hid (HR9.out.set 10 (.slice (some ⟨eb, eo + Nn, none⟩) (d2.length - Nn) (ec - Nn)))
            clear HR9
            have HR9 := HR9n
            clear HR9n
            try simp only [Act.put, List.setIfInBounds_toArray, List.set_cons_zero, List.set_cons_succ]
            refine rgn.Walk.ys (v := ?_) rfl rfl rfl ?_ ?_
            rotate_left 1
            · intro W' hW'
              go_simp
              try with_reducible rfl
            try simp only [Act.put, List.setIfInBounds_toArray, List.set_cons_zero, List.set_cons_succ]
            refine rgn.Walk.es ?_
            refine rgn.stepE rfl rfl (fun K hK => ?_)
            have qq := HR9.out.cell 4; have ff := HR9.out.frozen 4
            go_simp
            refine hK _ _ (Same.of_onlyS ((Only.refl [g9] _).setCell (p := ⟨g9, 4, none⟩) (Or.inl (by simp)) (.int .i64 (of2 + (Nn : Int)))) HBx.out.lt (by have := HgX.out; simp; omega)) ?_
            clear hK K qq ff
            have HBx := hid (HBx.out.far (p := ⟨g9, 4, none⟩) (by have := HgX.out; show w.heap.size ≠ g9; omega) (.int .i64 (of2 + (Nn : Int))))
            have HT := hid (HT.out.setCell (p := ⟨g9, 4, none⟩) (Or.inl (by simp)) (.int .i64 (of2 + (Nn : Int))))
            have HR9n : Hid (Ob _ g9 26 #[.int .i64 sv, .int .i64 pid, .bool false, .bool mo, .int .i64 (of2 + (Nn : Int)), .int .i64 lf, .int .i64 pr, .int .u32 fr, .int .u32 to, .slice rA o2.length rc, .slice (some ⟨eb, eo + Nn, none⟩) (d2.length - Nn) (ec - Nn)]) := hid (HR9.out.set 4 (.int .i64 (of2 + (Nn : Int))))
            clear HR9
            have HR9 := HR9n
            clear HR9n
            try simp only [Act.put, List.setIfInBounds_toArray, List.set_cons_zero, List.set_cons_succ]
            refine rgn.Walk.ys (v := ?_) rfl rfl rfl ?_ ?_
            rotate_left 1
            · intro W' hW'
              go_simp
              try with_reducible rfl
            try simp only [Act.put, List.setIfInBounds_toArray, List.set_cons_zero, List.set_cons_succ]
            refine rgn.Walk.es ?_
            refine rgn.stepE rfl rfl (fun K hK => ?_)
            have qq := HR9.out.cell 9; have ff := HR9.out.frozen 9
            go_simp
            refine hK _ _ (Same.of_onlyS ((Only.refl [g9] _).setCell (p := ⟨g9, 9, none⟩) (Or.inl (by simp)) (.slice A7 u.length c7)) HBx.out.lt (by have := HgX.out; simp; omega)) ?_
            clear hK K qq ff
            have HBx := hid (HBx.out.far (p := ⟨g9, 9, none⟩) (by have := HgX.out; show w.heap.size ≠ g9; omega) (.slice A7 u.length c7))
            have HT := hid (HT.out.setCell (p := ⟨g9, 9, none⟩) (Or.inl (by simp)) (.slice A7 u.length c7))
            have HR9n : Hid (Ob _ g9 26 #[.int .i64 sv, .int .i64 pid, .bool false, .bool mo, .int .i64 (of2 + (Nn : Int)), .int .i64 lf, .int .i64 pr, .int .u32 fr, .int .u32 to, .slice A7 u.length c7, .slice (some ⟨eb, eo + Nn, none⟩) (d2.length - Nn) (ec - Nn)]) := hid (HR9.out.set 9 (.slice A7 u.length c7))
            clear HR9
            have HR9 := HR9n
            clear HR9n
            try simp only [Act.put, List.setIfInBounds_toArray, List.set_cons_zero, List.set_cons_succ]
            refine rgn.Walk.zs (NoPanic.normal ?_)
            have O3 : Hid (Only [g9] w9 _) := hid ((HQ.out.more (by simp)).trans HT.out)
            have hb8 : w.heap.size ≤ _ := Nat.le_trans Q9.out.size HQ.out.size
            have K8 := KK.of_one HT.out hb8 HR9p.out HgB.out (by decide)
            have K3 := KK.of_one O3.out Q9.out.size HR9w.out HgB.out (by decide)
            have hV9 := own_only HV9.out O3.out (fun i hi hm => by have h1 := (own_lt HV9.out i hi).1; have h2 := HgV.out; simp at hm; omega)
            go_wp2_with fail
            go_roundg f
            case rel => exact ⟨_, M ++ [q], of2 + (Nn : Int), A7, c7, u, some ⟨eb, eo + Nn, none⟩, ec - Nn, d2.drop Nn, rfl, hid (by rw [List.length_drop]; have := HGk.out; omega), hid (by rw [List.length_drop]; exact HR9.out), HBx, hid (by simpa using hV9), hid (HPD9.out.keep K3), hid (HOu.out.keep K8), hid (by rw [List.length_drop]; exact (HEd9.out.drop (by omega)).keep K3), HUf, HUl, HIv9, HDt9, HOff9, hid (Only.fresh Q9.out O3.out (fun i hi => .inr (by have := HgB.out; simp at hi; omega))), hid (Nat.le_trans HB9.out O3.out.size)⟩
            case measure => omega
          · refine rgn.stepE rfl rfl (fun K hK => ?_)
            go_simp
            refine (copied1 _ oA on oc o (HO.out.only_nil (Q9.out.trans HQ.out)) hnc HCo.out (by omega) HOf.out).mono ?_
            rintro x w8 ⟨vu, u, rfl, hu, hofs, hul, o8⟩
            refine hK _ _ (Same.only o8 HBx.out.lt) ?_
            clear hK K
            obtain ⟨A7, c7, rfl, _, _⟩ := own_form hu
            have HOu := hid (show DK w.heap.size _ A7 u.length c7 u from DK.of_own hu)
            have HUf := hid hofs
            have HUl := hid hul
            have HQ := hid (HQ.out.trans o8); have HBx := hid (HBx.out.only o8 (by simp)); have HR9 := hid (HR9.out.only o8 (by simp))
            have HR9p := HR9
            clear hu hofs hul o8
            try simp only [Act.put, List.setIfInBounds_toArray, List.set_cons_zero, List.set_cons_succ]
            refine rgn.Walk.es ?_
            refine rgn.stepE rfl rfl (fun K hK => ?_)
            have qq := HR9.out.cell 10
            go_simp
            refine hK _ _ (Same.refl _ _) ?_
            clear hK K qq
            try simp only [Act.put, List.setIfInBounds_toArray, List.set_cons_zero, List.set_cons_succ]
            refine rgn.Walk.ys (v := ?_) rfl rfl rfl ?_ ?_
            rotate_left 1
            · intro W' hW'
              go_simp
              try rw [if_neg hnec]
              try with_reducible rfl
            try simp only [Act.put, List.setIfInBounds_toArray, List.set_cons_zero, List.set_cons_succ]
            refine rgn.Walk.ys (v := ?_) rfl rfl rfl ?_ ?_
            rotate_left 1
            · intro W' hW'
              go_simp
              try with_reducible rfl
            try simp only [Act.put, List.setIfInBounds_toArray, List.set_cons_zero, List.set_cons_succ]
            refine rgn.Walk.es ?_
            refine rgn.stepE rfl rfl (fun K hK => ?_)
            have qq := HR9.out.cell 10; have ff := HR9.out.frozen 10
            go_simp
            refine hK _ _ (Same.of_onlyS ((Only.refl [g9] _).setCell (p := ⟨g9, 10, none⟩) (Or.inl (by simp)) (.slice (some ⟨eb, eo + Nn, none⟩) (d2.length - Nn) (ec - Nn))) HBx.out.lt (by have := HgX.out; simp; omega)) ?_
            clear hK K qq ff
            have HBx := hid (HBx.out.far (p := ⟨g9, 10, none⟩) (by have := HgX.out; show w.heap.size ≠ g9; omega) (.slice (some ⟨eb, eo + Nn, none⟩) (d2.length - Nn) (ec - Nn)))
            have HT := hid ((Only.refl [g9] w8).setCell (p := ⟨g9, 10, none⟩) (Or.inl (by simp)) (.slice (some ⟨eb, eo + Nn, none⟩) (d2.length - Nn) (ec - Nn)))
            have HR9n : Hid (Ob _ g9 26 #[.int .i64 sv, .int .i64 pid, .bool false, .bool mo, .int .i64 of2, .int .i64 lf, .int .i64 pr, .int .u32 fr, .int .u32 to, .slice rA o2.length rc, .slice (some ⟨eb, eo + Nn, none⟩) (d2.length - Nn) (ec - Nn)]) := hid (HR9.out.set 10 (.slice (some ⟨eb, eo + Nn, none⟩) (d2.length - Nn) (ec - Nn)))
            clear HR9
            have HR9 := HR9n
            clear HR9n
            try simp only [Act.put, List.setIfInBounds_toArray, List.set_cons_zero, List.set_cons_succ]
            refine rgn.Walk.ys (v := ?_) rfl rfl rfl ?_ ?_
            rotate_left 1
            · intro W' hW'
              go_simp
              try with_reducible rfl
            try simp only [Act.put, List.setIfInBounds_toArray, List.set_cons_zero, List.set_cons_succ]
            refine rgn.Walk.es ?_
            refine rgn.stepE rfl rfl (fun K hK => ?_)
            have qq := HR9.out.cell 4; have ff := HR9.out.frozen 4
            go_simp
            refine hK _ _ (Same.of_onlyS ((Only.refl [g9] _).setCell (p := ⟨g9, 4, none⟩) (Or.inl (by simp)) (.int .i64 (of2 + (Nn : Int)))) HBx.out.lt (by have := HgX.out; simp; omega)) ?_
            clear hK K qq ff
            have HBx := hid (HBx.out.far (p := ⟨g9, 4, none⟩) (by have := HgX.out; show w.heap.size ≠ g9; omega) (.int .i64 (of2 + (Nn : Int))))
            have HT := hid (HT.out.setCell (p := ⟨g9, 4, none⟩) (Or.inl (by simp)) (.int .i64 (of2 + (Nn : Int))))
            have HR9n : Hid (Ob _ g9 26 #[.int .i64 sv, .int .i64 pid, .bool false, .bool mo, .int .i64 (of2 + (Nn : Int)), .int .i64 lf, .int .i64 pr, .int .u32 fr, .int .u32 to, .slice rA o2.length rc, .slice (some ⟨eb, eo + Nn, none⟩) (d2.length - Nn) (ec - Nn)]) := hid (HR9.out.set 4 (.int .i64 (of2 + (Nn : Int))))
            clear HR9
            have HR9 := HR9n
            clear HR9n
            try simp only [Act.put, List.setIfInBounds_toArray, List.set_cons_zero, List.set_cons_succ]
            refine rgn.Walk.ys (v := ?_) rfl rfl rfl ?_ ?_
            rotate_left 1
            · intro W' hW'
              go_simp
              try with_reducible rfl
            try simp only [Act.put, List.setIfInBounds_toArray, List.set_cons_zero, List.set_cons_succ]
            refine rgn.Walk.es ?_
            refine rgn.stepE rfl rfl (fun K hK => ?_)
            have qq := HR9.out.cell 9; have ff := HR9.out.frozen 9
            go_simp
            refine hK _ _ (Same.of_onlyS ((Only.refl [g9] _).setCell (p := ⟨g9, 9, none⟩) (Or.inl (by simp)) (.slice A7 u.length c7)) HBx.out.lt (by have := HgX.out; simp; omega)) ?_
            clear hK K qq ff
            have HBx := hid (HBx.out.far (p := ⟨g9, 9, none⟩) (by have := HgX.out; show w.heap.size ≠ g9; omega) (.slice A7 u.length c7))
            have HT := hid (HT.out.setCell (p := ⟨g9, 9, none⟩) (Or.inl (by simp)) (.slice A7 u.length c7))
            have HR9n : Hid (Ob _ g9 26 #[.int .i64 sv, .int .i64 pid, .bool false, .bool mo, .int .i64 (of2 + (Nn : Int)), .int .i64 lf, .int .i64 pr, .int .u32 fr, .int .u32 to, .slice A7 u.length c7, .slice (some ⟨eb, eo + Nn, none⟩) (d2.length - Nn) (ec - Nn)]) := hid (HR9.out.set 9 (.slice A7 u.length c7))
            clear HR9
            have HR9 := HR9n
            clear HR9n
            try simp only [Act.put, List.setIfInBounds_toArray, List.set_cons_zero, List.set_cons_succ]
            refine rgn.Walk.zs (NoPanic.normal ?_)
            have O3 : Hid (Only [g9] w9 _) := hid ((HQ.out.more (by simp)).trans HT.out)
            have hb8 : w.heap.size ≤ _ := Nat.le_trans Q9.out.size HQ.out.size
            have K8 := KK.of_one HT.out hb8 HR9p.out HgB.out (by decide)
            have K3 := KK.of_one O3.out Q9.out.size HR9w.out HgB.out (by decide)
            have hV9 := own_only HV9.out O3.out (fun i hi hm => by have h1 := (own_lt HV9.out i hi).1; have h2 := HgV.out; simp at hm; omega)
            go_wp2_with fail
            go_roundg f
            case rel => exact ⟨_, M ++ [q], of2 + (Nn : Int), A7, c7, u, some ⟨eb, eo + Nn, none⟩, ec - Nn, d2.drop Nn, rfl, hid (by rw [List.length_drop]; have := HGk.out; omega), hid (by rw [List.length_drop]; exact HR9.out), HBx, hid (by simpa using hV9), hid (HPD9.out.keep K3), hid (HOu.out.keep K8), hid (by rw [List.length_drop]; exact (HEd9.out.drop (by omega)).keep K3), HUf, HUl, HIv9, HDt9, HOff9, hid (Only.fresh Q9.out O3.out (fun i hi => .inr (by have := HgB.out; simp at hi; omega))), hid (Nat.le_trans HB9.out O3.out.size)⟩
            case measure => omega
        · refine rgn.stepE rfl rfl (fun K hK => ?_)
          go_simp
          refine (copied1 _ oA on oc o (HO.out.only_nil (Q9.out.trans HQ.out)) hnc HCo.out (by omega) HOf.out).mono ?_
          rintro x w8 ⟨vu, u, rfl, hu, hofs, hul, o8⟩
          refine hK _ _ (Same.only o8 HBx.out.lt) ?_
          clear hK K
          obtain ⟨A7, c7, rfl, _, _⟩ := own_form hu
          have HOu := hid (show DK w.heap.size _ A7 u.length c7 u from DK.of_own hu)
          have HUf := hid hofs
          have HUl := hid hul
          have HQ := hid (HQ.out.trans o8); have HBx := hid (HBx.out.only o8 (by simp)); have HR9 := hid (HR9.out.only o8 (by simp))
          have HR9p := HR9
          clear hu hofs hul o8
          try simp only [Act.put, List.setIfInBounds_toArray, List.set_cons_zero, List.set_cons_succ]
          refine rgn.Walk.bs ?_ ?_
          · refine rgn.stepE rfl rfl (fun K hK => ?_)
            have qq := HR9.out.cell 10
            go_simp
            refine hK _ _ (Same.refl _ _) ?_
            clear hK K qq
            try simp only [Act.put, List.setIfInBounds_toArray, List.set_cons_zero, List.set_cons_succ]
            refine rgn.Walk.ys (v := ?_) rfl rfl rfl ?_ ?_
            rotate_left 1
            · intro W' hW'
              go_simp
              try rw [if_neg hnec]
              try with_reducible rfl
            try simp only [Act.put, List.setIfInBounds_toArray, List.set_cons_zero, List.set_cons_succ]
            refine rgn.Walk.es ?_
            refine rgn.stepE rfl rfl (fun K hK => ?_)
            have qq := HR9.out.cell 4
            go_simp
            refine hK _ _ (Same.refl _ _) ?_
            clear hK K qq
            try simp only [Act.put, List.setIfInBounds_toArray, List.set_cons_zero, List.set_cons_succ]
            refine rgn.Walk.ys (v := ?_) rfl rfl rfl ?_ ?_
            rotate_left 1
            · intro W' hW'
              go_simp
              try with_reducible rfl
            try simp only [Act.put, List.setIfInBounds_toArray, List.set_cons_zero, List.set_cons_succ]
            refine rgn.Walk.ys (v := ?_) rfl rfl rfl ?_ ?_
            rotate_left 1
            · intro W' hW'
              go_simp
              try with_reducible rfl
            try simp only [Act.put, List.setIfInBounds_toArray, List.set_cons_zero, List.set_cons_succ]
            refine rgn.Walk.es ?_
            refine rgn.stepE rfl rfl (fun K hK => ?_)
            have qq := HR9.out.cell 10; have ff := HR9.out.frozen 10
            go_simp
            refine hK _ _ (Same.of_onlyS ((Only.refl [g9] _).setCell (p := ⟨g9, 10, none⟩) (Or.inl (by simp)) (.slice (some ⟨eb, eo + Nn, none⟩) (d2.length - Nn) (ec - Nn))) HBx.out.lt (by have := HgX.out; simp; omega)) ?_
            clear hK K qq ff
            have HBx := hid (HBx.out.far (p := ⟨g9, 10, none⟩) (by have := HgX.out; show w.heap.size ≠ g9; omega) (.slice (some ⟨eb, eo + Nn, none⟩) (d2.length - Nn) (ec - Nn)))
            have HT := hid ((Only.refl [g9] w8).setCell (p := ⟨g9, 10, none⟩) (Or.inl (by simp)) (.slice (some ⟨eb, eo + Nn, none⟩) (d2.length - Nn) (ec - Nn)))
            have HR9n : Hid (Ob _ g9 26 #[.int .i64 sv, .int .i64 pid, .bool false, .bool mo, .int .i64 of2, .int .i64 lf, .int .i64 pr, .int .u32 fr, .int .u32 to, .slice rA o2.length rc, .slice (some ⟨eb, eo + Nn, none⟩) (d2.length - Nn) (ec - Nn)]) := hid (HR9.out.set 10 (.slice (some ⟨eb, eo + Nn, none⟩) (d2.length - Nn) (ec - Nn)))
            clear HR9
            have HR9 := HR9n
            clear HR9n
            try simp only [Act.put, List.setIfInBounds_toArray, List.set_cons_zero, List.set_cons_succ]
            refine rgn.Walk.ys (v := ?_) rfl rfl rfl ?_ ?_
            rotate_left 1
            · intro W' hW'
              go_simp
              try with_reducible rfl
            try simp only [Act.put, List.setIfInBounds_toArray, List.set_cons_zero, List.set_cons_succ]
            refine rgn.Walk.es ?_
            refine rgn.stepE rfl rfl (fun K hK => ?_)
            have qq := HR9.out.cell 4; have ff := HR9.out.frozen 4
            go_simp
            refine hK _ _ (Same.of_onlyS ((Only.refl [g9] _).setCell (p := ⟨g9, 4, none⟩) (Or.inl (by simp)) (.int .i64 (of2 + (Nn : Int)))) HBx.out.lt (by have := HgX.out; simp; omega)) ?_
            clear hK K qq ff
            have HBx := hid (HBx.out.far (p := ⟨g9, 4, none⟩) (by have := HgX.out; show w.heap.size ≠ g9; omega) (.int .i64 (of2 + (Nn : Int))))
            have HT := hid (HT.out.setCell (p := ⟨g9, 4, none⟩) (Or.inl (by simp)) (.int .i64 (of2 + (Nn : Int))))
            have HR9n : Hid (Ob _ g9 26 #[.int .i64 sv, .int .i64 pid, .bool false, .bool mo, .int .i64 (of2 + (Nn : Int)), .int .i64 lf, .int .i64 pr, .int .u32 fr, .int .u32 to, .slice rA o2.length rc, .slice (some ⟨eb, eo + Nn, none⟩) (d2.length - Nn) (ec - Nn)]) := hid (HR9.out.set 4 (.int .i64 (of2 + (Nn : Int))))
            clear HR9
            have HR9 := HR9n
            clear HR9n
            try simp only [Act.put, List.setIfInBounds_toArray, List.set_cons_zero, List.set_cons_succ]
            refine rgn.Walk.ys (v := ?_) rfl rfl rfl ?_ ?_
            rotate_left 1
            · intro W' hW'
              go_simp
              try with_reducible rfl
            try simp only [Act.put, List.setIfInBounds_toArray, List.set_cons_zero, List.set_cons_succ]
            refine rgn.Walk.es ?_
            refine rgn.stepE rfl rfl (fun K hK => ?_)
            have qq := HR9.out.cell 9; have ff := HR9.out.frozen 9
            go_simp
            refine hK _ _ (Same.of_onlyS ((Only.refl [g9] _).setCell (p := ⟨g9, 9, none⟩) (Or.inl (by simp)) (.slice A7 u.length c7)) HBx.out.lt (by have := HgX.out; simp; omega)) ?_
            clear hK K qq ff
            have HBx := hid (HBx.out.far (p := ⟨g9, 9, none⟩) (by have := HgX.out; show w.heap.size ≠ g9; omega) (.slice A7 u.length c7))
            have HT := hid (HT.out.setCell (p := ⟨g9, 9, none⟩) (Or.inl (by simp)) (.slice A7 u.length c7))
            have HR9n : Hid (Ob _ g9 26 #[.int .i64 sv, .int .i64 pid, .bool false, .bool mo, .int .i64 (of2 + (Nn : Int)), .int .i64 lf, .int .i64 pr, .int .u32 fr, .int .u32 to, .slice A7 u.length c7, .slice (some ⟨eb, eo + Nn, none⟩) (d2.length - Nn) (ec - Nn)]) := hid (HR9.out.set 9 (.slice A7 u.length c7))
            clear HR9
            have HR9 := HR9n
            clear HR9n
            try simp only [Act.put, List.setIfInBounds_toArray, List.set_cons_zero, List.set_cons_succ]
            refine rgn.Walk.zs (NoPanic.normal ?_)
            have O3 : Hid (Only [g9] w9 _) := hid ((HQ.out.more (by simp)).trans HT.out)
            have hb8 : w.heap.size ≤ _ := Nat.le_trans Q9.out.size HQ.out.size
            have K8 := KK.of_one HT.out hb8 HR9p.out HgB.out (by decide)
            have K3 := KK.of_one O3.out Q9.out.size HR9w.out HgB.out (by decide)
            have hV9 := own_only HV9.out O3.out (fun i hi hm => by have h1 := (own_lt HV9.out i hi).1; have h2 := HgV.out; simp at hm; omega)
            go_wp2_with fail
            go_roundg f
            case rel => exact ⟨_, M ++ [q], of2 + (Nn : Int), A7, c7, u, some ⟨eb, eo + Nn, none⟩, ec - Nn, d2.drop Nn, rfl, hid (by rw [List.length_drop]; have := HGk.out; omega), hid (by rw [List.length_drop]; exact HR9.out), HBx, hid (by simpa using hV9), hid (HPD9.out.keep K3), hid (HOu.out.keep K8), hid (by rw [List.length_drop]; exact (HEd9.out.drop (by omega)).keep K3), HUf, HUl, HIv9, HDt9, HOff9, hid (Only.fresh Q9.out O3.out (fun i hi => .inr (by have := HgB.out; simp at hi; omega))), hid (Nat.le_trans HB9.out O3.out.size)⟩
            case measure => omega
          · refine rgn.stepE rfl rfl (fun K hK => ?_)
            have qq := HR9.out.cell 4
            go_simp
            refine hK _ _ (Same.refl _ _) ?_
            clear hK K qq
            try simp only [Act.put, List.setIfInBounds_toArray, List.set_cons_zero, List.set_cons_succ]
            refine rgn.Walk.ys (v := ?_) rfl rfl rfl ?_ ?_
            rotate_left 1
            · intro W' hW'
              go_simp
              try with_reducible rfl
            try simp only [Act.put, List.setIfInBounds_toArray, List.set_cons_zero, List.set_cons_succ]
            refine rgn.Walk.es ?_
            refine rgn.stepE rfl rfl (fun K hK => ?_)
            have qq := HR9.out.cell 10
            go_simp
            refine hK _ _ (Same.refl _ _) ?_
            clear hK K qq
            try simp only [Act.put, List.setIfInBounds_toArray, List.set_cons_zero, List.set_cons_succ]
            refine rgn.Walk.ys (v := ?_) rfl rfl rfl ?_ ?_
            rotate_left 1
            · intro W' hW'
              go_simp
              try rw [if_neg hnec]
              try with_reducible rfl
            try simp only [Act.put, List.setIfInBounds_toArray, List.set_cons_zero, List.set_cons_succ]
            refine rgn.Walk.ys (v := ?_) rfl rfl rfl ?_ ?_
            rotate_left 1
            · intro W' hW'
              go_simp
              try with_reducible rfl
            try simp only [Act.put, List.setIfInBounds_toArray, List.set_cons_zero, List.set_cons_succ]
            refine rgn.Walk.es ?_
            refine rgn.stepE rfl rfl (fun K hK => ?_)
            have qq := HR9.out.cell 10; have ff := HR9.out.frozen 10
            go_simp
            refine hK _ _ (Same.of_onlyS ((Only.refl [g9] _).setCell (p := ⟨g9, 10, none⟩) (Or.inl (by simp)) (.slice (some ⟨eb, eo + Nn, none⟩) (d2.length - Nn) (ec - Nn))) HBx.out.lt (by have := HgX.out; simp; omega)) ?_
            clear hK K qq ff
            have HBx := hid (HBx.out.far (p := ⟨g9, 10, none⟩) (by have := HgX.out; show w.heap.size ≠ g9; omega) (.slice (some ⟨eb, eo + Nn, none⟩) (d2.length - Nn) (ec - Nn)))
            have HT := hid ((Only.refl [g9] w8).setCell (p := ⟨g9, 10, none⟩) (Or.inl (by simp)) (.slice (some ⟨eb, eo + Nn, none⟩) (d2.length - Nn) (ec - Nn)))
            have HR9n : Hid (Ob _ g9 26 #[.int .i64 sv, .int .i64 pid, .bool false, .bool mo, .int .i64 of2, .int .i64 lf, .int .i64 pr, .int .u32 fr, .int .u32 to, .slice rA o2.length rc, .slice (some ⟨eb, eo + Nn, none⟩) (d2.length - Nn) (ec - Nn)]) := hid (HR9.out.set 10 (.slice (some ⟨eb, eo + Nn, none⟩) (d2.length - Nn) (ec - Nn)))
            clear HR9
            have HR9 := HR9n
            clear HR9n
            try simp only [Act.put, List.setIfInBounds_toArray, List.set_cons_zero, List.set_cons_succ]
            refine rgn.Walk.ys (v := ?_) rfl rfl rfl ?_ ?_
            rotate_left 1
            · intro W' hW'
              go_simp
              try with_reducible rfl
            try simp only [Act.put, List.setIfInBounds_toArray, List.set_cons_zero, List.set_cons_succ]
            refine rgn.Walk.es ?_
            refine rgn.stepE rfl rfl (fun K hK => ?_)
            have qq := HR9.out.cell 4; have ff := HR9.out.frozen 4
            go_simp
            refine hK _ _ (Same.of_onlyS ((Only.refl [g9] _).setCell (p := ⟨g9, 4, none⟩) (Or.inl (by simp)) (.int .i64 (of2 + (Nn : Int)))) HBx.out.lt (by have := HgX.out; simp; omega)) ?_
            clear hK K qq ff
            have HBx := hid (HBx.out.far (p := ⟨g9, 4, none⟩) (by have := HgX.out; show w.heap.size ≠ g9; omega) (.int .i64 (of2 + (Nn : Int))))
            have HT := hid (HT.out.setCell (p := ⟨g9, 4, none⟩) (Or.inl (by simp)) (.int .i64 (of2 + (Nn : Int))))
            have HR9n : Hid (Ob _ g9 26 #[.int .i64 sv, .int .i64 pid, .bool false, .bool mo, .int .i64 (of2 + (Nn : Int)), .int .i64 lf, .int .i64 pr, .int .u32 fr, .int .u32 to, .slice rA o2.length rc, .slice (some ⟨eb, eo + Nn, none⟩) (d2.length - Nn) (ec - Nn)]) := hid (HR9.out.set 4 (.int .i64 (of2 + (Nn : Int))))
            clear HR9
            have HR9 := HR9n
            clear HR9n
            try simp only [Act.put, List.setIfInBounds_toArray, List.set_cons_zero, List.set_cons_succ]
            refine rgn.Walk.ys (v := ?_) rfl rfl rfl ?_ ?_
            rotate_left 1
            · intro W' hW'
              go_simp
              try with_reducible rfl
            try simp only [Act.put, List.setIfInBounds_toArray, List.set_cons_zero, List.set_cons_succ]
            refine rgn.Walk.es ?_
            refine rgn.stepE rfl rfl (fun K hK => ?_)
            have qq := HR9.out.cell 9; have ff := HR9.out.frozen 9
            go_simp
            refine hK _ _ (Same.of_onlyS ((Only.refl [g9] _).setCell (p := ⟨g9, 9, none⟩) (Or.inl (by simp)) (.slice A7 u.length c7)) HBx.out.lt (by have := HgX.out; simp; omega)) ?_
            clear hK K qq ff
            have HBx := hid (HBx.out.far (p := ⟨g9, 9, none⟩) (by have := HgX.out; show w.heap.size ≠ g9; omega) (.slice A7 u.length c7))
            have HT := hid (HT.out.setCell (p := ⟨g9, 9, none⟩) (Or.inl (by simp)) (.slice A7 u.length c7))
            have HR9n : Hid (Ob _ g9 26 #[.int .i64 sv, .int .i64 pid, .bool false, .bool mo, .int .i64 (of2 + (Nn : Int)), .int .i64 lf, .int .i64 pr, .int .u32 fr, .int .u32 to, .slice A7 u.length c7, .slice (some ⟨eb, eo + Nn, none⟩) (d2.length - Nn) (ec - Nn)]) := hid (HR9.out.set 9 (.slice A7 u.length c7))
            clear HR9
            have HR9 := HR9n
            clear HR9n
            try simp only [Act.put, List.setIfInBounds_toArray, List.set_cons_zero, List.set_cons_succ]
            refine rgn.Walk.zs (NoPanic.normal ?_)
            have O3 : Hid (Only [g9] w9 _) := hid ((HQ.out.more (by simp)).trans HT.out)
            have hb8 : w.heap.size ≤ _ := Nat.le_trans Q9.out.size HQ.out.size
            have K8 := KK.of_one HT.out hb8 HR9p.out HgB.out (by decide)
            have K3 := KK.of_one O3.out Q9.out.size HR9w.out HgB.out (by decide)
            have hV9 := own_only HV9.out O3.out (fun i hi hm => by have h1 := (own_lt HV9.out i hi).1; have h2 := HgV.out; simp at hm; omega)
            go_wp2_with fail
            go_roundg f
            case rel => exact ⟨_, M ++ [q], of2 + (Nn : Int), A7, c7, u, some ⟨eb, eo + Nn, none⟩, ec - Nn, d2.drop Nn, rfl, hid (by rw [List.length_drop]; have := HGk.out; omega), hid (by rw [List.length_drop]; exact HR9.out), HBx, hid (by simpa using hV9), hid (HPD9.out.keep K3), hid (HOu.out.keep K8), hid (by rw [List.length_drop]; exact (HEd9.out.drop (by omega)).keep K3), HUf, HUl, HIv9, HDt9, HOff9, hid (Only.fresh Q9.out O3.out (fun i hi => .inr (by have := HgB.out; simp at hi; omega))), hid (Nat.le_trans HB9.out O3.out.size)⟩
            case measure => omega
end Go.Proofs.Ytngaolagifgfjaa.ip
/-
  Chapter 7 (frag): the law FragFits, by a walk of its text. Conditions: none but those typed.
-/
namespace Go.Proofs.Ytngaolagifgfjaa.ip
set_option linter.unusedVariables false
set_option linter.unusedSimpArgs false
open Go.ChangeShapes Go.WideShapes Go.ChangeAt Go.RowKit Go.IntWalk Go.Lib
theorem whole_at {off : Int} {mo : Bool} {m : Nat} {d : List Int} {M : List Pk} (h : Whole off mo m d M) (k : Nat) (hk : k < M.length) : OkP off m M k (M.getD k pk0) ∧ (k + 1 < M.length → (M.getD k pk0).mo = true ∧ (M.getD k pk0).d.length % 8 = 0) ∧ (k + 1 = M.length → (M.getD k pk0).mo = mo) := by
  obtain ⟨M0, q, rfl, hi, hq, hm, _⟩ := h
  have hl : (M0 ++ [q]).length = M0.length + 1 := by simp
  by_cases hkm : k < M0.length
  · have e : (M0 ++ [q]).getD k pk0 = M0.getD k pk0 := by rw [List.getD_eq_getElem?_getD, List.getD_eq_getElem?_getD, List.getElem?_append_left hkm]
    have e2 : (M0 ++ [q]).take k = M0.take k := List.take_append_of_le_length (by omega)
    rw [e]
    unfold OkP
    rw [e2]
    have h9 := hi k hkm
    exact ⟨h9.1, fun _ => h9.2, fun h8 => by omega⟩
  · have hk2 : k = M0.length := by omega
    subst hk2
    have e : (M0 ++ [q]).getD M0.length pk0 = q := by rw [List.getD_eq_getElem?_getD, List.getElem?_append_right (Nat.le_refl _)]; simp
    rw [e]
    exact ⟨hq, fun h8 => by omega, fun _ => hm⟩
theorem pk_mem (L : List Pk) (k : Nat) (h : k < L.length) : L.getD k pk0 ∈ L := by
  rw [List.getD_eq_getElem?_getD, List.getElem?_eq_getElem h]; exact List.getElem_mem h
theorem pk_take (L : List Pk) (k : Nat) (h : k < L.length) : L.take (k + 1) = L.take k ++ [L.getD k pk0] := by
  rw [List.take_succ_eq_append_getElem h, List.getD_eq_getElem?_getD, List.getElem?_eq_getElem h]; rfl
theorem dat_le (M : List Pk) (k : Nat) : (dat (M.take k)).length ≤ (dat M).length := by
  have h : dat M = dat (M.take k) ++ dat (M.drop k) := by
    unfold dat; rw [← List.flatMap_append, List.take_append_drop]
  rw [h, List.length_append]; omega
theorem encP_len (sv pid off lf pr : Int) (wh mo : Bool) (fr to : Int) (o d : List Int) : (encP sv pid off lf pr wh mo fr to o d).length = hl o.length + d.length := by
  unfold encP; rw [List.length_append, hdr_len]
def LngE (dn on : Nat) (w : World) (x : Ending) (w' : World) : Prop := ∃ q, x = .returned (.bool q) ∧ Only [] w w' ∧ (q = false → dn ≤ 6000 ∧ on ≤ 100)
theorem flong1 (w : World) (sv pid : Int) (wh mo : Bool) (off lf pr fr to : Int) (oA : Option Addr) (on oc : Nat) (dA : Option Addr) (dn dc : Nat) :
    Calls Try.prog 11 #[.agg #[.int .i64 sv, .int .i64 pid, .bool wh, .bool mo, .int .i64 off, .int .i64 lf, .int .i64 pr, .int .u32 fr, .int .u32 to, .slice oA on oc, .slice dA dn dc]] w (LngE dn on w) := by
  have Q0 : Hid (Only [] w (w.alloc (.cells #[.int .i64 sv, .int .i64 pid, .bool wh, .bool mo, .int .i64 off, .int .i64 lf, .int .i64 pr, .int .u32 fr, .int .u32 to, .slice oA on oc, .slice dA dn dc] 26))) := hid ((Only.refl [] w).alloc _)
  by_cases h1 : (6000 : Int) < (dn : Int)
  · go_enter Try.func11, Try.ntmps11
    go_wp2_with fail
    go_ret
    exact ⟨true, rfl, Q0.out, fun h => by cases h⟩
  · by_cases h2 : (100 : Int) < (on : Int)
    · go_enter Try.func11, Try.ntmps11
      go_wp2_with fail
      go_ret
      exact ⟨true, by first | rfl | simp [h2], Q0.out, fun h => by cases h⟩
    · go_enter Try.func11, Try.ntmps11
      go_wp2_with fail
      go_ret
      exact ⟨false, by first | rfl | simp [h2], Q0.out, fun _ => by omega⟩
set_option maxRecDepth 100000 in
set_option maxHeartbeats 16000000 in
theorem fits (w : World) (sv pid : Int) (wh mo : Bool) (off lf pr fr to : Int) (oA : Option Addr) (on oc : Nat) (dA : Option Addr) (dn dc : Nat) (o d : List Int) (m : Int) (ho : Rd .u8 w oA on o) (hoc : oA = none → oc = 0) (hnc : on ≤ oc) (hcm : oc ≤ maxLen) (hd : Rd .u8 w dA dn d) (hdc : dA = none → dc = 0) (hdnc : dn ≤ dc) (hdcm : dc ≤ maxLen) :
    Calls Try.prog 4 #[.agg #[.int .i64 sv, .int .i64 pid, .bool wh, .bool mo, .int .i64 off, .int .i64 lf, .int .i64 pr, .int .u32 fr, .int .u32 to, .slice oA on oc, .slice dA dn dc], .int .i64 m] w fun x w' => x = .returned (.bool true) ∧ Only [] w w' := by
  have Hdn := hid hd.len
  obtain ⟨W0, hW0⟩ : ∃ W0, w.alloc (.cells #[.int .i64 sv, .int .i64 pid, .bool wh, .bool mo, .int .i64 off, .int .i64 lf, .int .i64 pr, .int .u32 fr, .int .u32 to, .slice oA on oc, .slice dA dn dc] 26) = W0 := ⟨_, rfl⟩
  have C0 : Hid (Ob W0 w.heap.size 26 #[.int .i64 sv, .int .i64 pid, .bool wh, .bool mo, .int .i64 off, .int .i64 lf, .int .i64 pr, .int .u32 fr, .int .u32 to, .slice oA on oc, .slice dA dn dc]) := hid (by rw [← hW0]; exact Ob.new _ _ _)
  have Q0 : Hid (Only [] w W0) := hid (by rw [← hW0]; exact (Only.refl [] w).alloc _)
  have HO := hid (ho.only_nil Q0.out); have HD := hid (hd.only_nil Q0.out); have HCo := hid hcm; have HCd := hid hdcm; have HZo := hid hoc; have HZd := hid hdc
  have k0 := C0.out.cell 0; have k1 := C0.out.cell 1; have k2 := C0.out.cell 2; have k3 := C0.out.cell 3; have k4 := C0.out.cell 4; have k5 := C0.out.cell 5; have k6 := C0.out.cell 6; have k7 := C0.out.cell 7; have k8 := C0.out.cell 8; have k9 := C0.out.cell 9; have k10 := C0.out.cell 10
  clear ho hd hcm hdcm hoc hdc
  go_enter Try.func4, Try.ntmps4
  go_wp2_with fail
  refine (flong1 W0 sv pid wh mo off lf pr fr to oA on oc dA dn dc).mono ?_
  rintro x w1 ⟨q, rfl, o1, hq⟩
  have Q1 := hid o1
  have C1 := hid (C0.out.only o1 (by simp))
  have HQ := hid hq
  clear k0 k1 k2 k3 k4 k5 k6 k7 k8 k9 k10 o1 hq hW0
  cases q with
  | true =>
    go_wp2_with fail
    go_ret
    exact ⟨rfl, Q0.out.trans Q1.out⟩
  | false =>
    have hdn6 := (HQ.out rfl).1
    have hon6 := (HQ.out rfl).2
    have k0 := C1.out.cell 0; have k1 := C1.out.cell 1; have k2 := C1.out.cell 2; have k3 := C1.out.cell 3; have k4 := C1.out.cell 4; have k5 := C1.out.cell 5; have k6 := C1.out.cell 6; have k7 := C1.out.cell 7; have k8 := C1.out.cell 8; have k9 := C1.out.cell 9; have k10 := C1.out.cell 10
    go_wp2_with fail
    refine (split1 w1 sv pid wh mo off lf pr fr to oA on oc dA dn dc o d m (HO.out.only_nil Q1.out) HZo.out hnc HCo.out (by omega) (HD.out.only_nil Q1.out) HZd.out hdnc HCd.out (by omega)).mono ?_
    rintro x w2 ⟨v2, e, M, rfl, hres, hrow, hpd, o2⟩
    have Q2 := hid (Q1.out.trans o2)
    have C2 := hid (C1.out.only o2 (by simp))
    clear k0 k1 k2 k3 k4 k5 k6 k7 k8 k9 k10
    rcases hres with ⟨he, rfl, rfl⟩ | ⟨rfl, hwh⟩
    · have heb : (e != 0) = true := by simpa using he
      clear hrow hpd o2
      go_wp2_with fail
      refine (ev.known _).mono ?_
      rintro x w9 ⟨rfl, o9⟩
      have Q9 := hid (Q2.out.trans o9); clear o9
      go_wp2_with fail
      go_ret
      exact ⟨rfl, Q0.out.trans Q9.out⟩
    have HWh := hid hwh
    have HPD := hid hpd
    have hMpos : 0 < M.length := by obtain ⟨M0, q, rfl, _⟩ := hwh; simp
    have HDt : Hid (dat M = d) := hid (by obtain ⟨M0, q, _, _, _, _, h9⟩ := hwh; exact h9)
    obtain ⟨A2, c2, ev2, hnc2, hcm2, hz2, hrd2, hblk2, hform2⟩ := RdS.of_own hrow (pcs_one _)
    have HBlk : Hid (∀ b off, A2 = some ⟨b, off, none⟩ → off = 0 ∧ w1.heap.size ≤ b) := hid (fun b off e => ⟨(hblk2 b off e).1, (own_lt hrow b (hblk2 b off e).2).1⟩)
    have HNb : Hid (M.length ≤ 9223372036854775807) := hid (by have h9 := hcm2; unfold maxLen at h9; omega)
    clear hcm2 hz2 hblk2 hform2
    subst ev2
    have HRw := hid hrd2
    have hw1 := Q1.out.size
    have hw0 := Q0.out.size
    obtain ⟨N, hN⟩ : ∃ N, M.length = N := ⟨_, rfl⟩
    have HN := hid hN
    rw [hN] at hMpos
    rw [hN]
    have HB1 : Hid (w1.heap.size ≤ w2.heap.size) := hid o2.size
    clear hwh hpd hrow hnc2 hrd2 o2 hN
    go_wp2_with fail
    go_loopw [8, 7, 9, 10] (fun i va v9 v10 wr => ∃ (k : Nat) (v : Value), v = va ∧ i = .int .i64 k ∧ k ≤ N ∧ Hid (Own .u8 5 wr w.heap.size v (dat (M.take k))) ∧ Hid (∀ j, v.ownBlock = some j → w2.heap.size ≤ j) ∧ Hid (Only [] W0 wr) ∧ Hid (Only [] w2 wr)) (fun i _ _ _ _ => N - (RowKit.intOf i).toNat)
    case atStart => exact ⟨0, .slice none 0 0, rfl, rfl, by omega, hid (Own.nil _ _ _ _), hid (fun j h => absurd h (by simp [Value.ownBlock])), Q2, hid (Only.refl _ _)⟩
    case round =>
      obtain ⟨k, v, rfl, rfl, hk, HV, HVlow, HB, HB2⟩ := hrel
      by_cases hlt : k < N
      · have HK : Hid (k < M.length) := hid (by rw [HN.out]; exact hlt)
        have hat := whole_at HWh.out k HK.out
        have HTk := hid (pk_take M k HK.out)
        have HK1 : Hid (k + 1 ≤ N) := hid (by omega)
        have hpdk := HPD.out _ (pk_mem M k HK.out)
        have HUl : Hid ((dat (M.take k)).length ≤ dn) := hid (by have h9 := dat_le M k; rw [HDt.out, Hdn.out] at h9; exact h9)
        have hqd0 : (M.getD k pk0).d.length ≤ dn := by
          have h9 := dat_le M (k + 1)
          rw [HTk.out, dat_snoc, HDt.out, Hdn.out, List.length_append] at h9
          omega
        obtain ⟨b, bo, rfl, hb, hcell⟩ := RowP.at (w := wr) (A := A2) (L := M) (by
          have h9 := RdS.only_nil HRw.out HB2.out
          exact h9) k HK.out
        obtain rfl : bo = 0 := (HBlk.out b bo rfl).1
        simp only [Nat.zero_add] at hcell
        generalize M.getD k pk0 = q at *
        obtain ⟨qsv, qpid, qwh, qmo, qoff, qlf, qpr, qfr, qto, qoA, qoc, qo, qdA, qdc, qd⟩ := q
        have d0 : wr.cell? ⟨b, k * 11, none⟩ = some (.int .i64 qsv) := by have h9 := hcell 0 _ rfl; rwa [Nat.add_zero] at h9
        have d1 : wr.cell? ⟨b, k * 11 + 1, none⟩ = some (.int .i64 qpid) := hcell 1 _ rfl; have d2 : wr.cell? ⟨b, k * 11 + 2, none⟩ = some (.bool qwh) := hcell 2 _ rfl; have d3 : wr.cell? ⟨b, k * 11 + 3, none⟩ = some (.bool qmo) := hcell 3 _ rfl; have d4 : wr.cell? ⟨b, k * 11 + 4, none⟩ = some (.int .i64 qoff) := hcell 4 _ rfl; have d5 : wr.cell? ⟨b, k * 11 + 5, none⟩ = some (.int .i64 qlf) := hcell 5 _ rfl; have d6 : wr.cell? ⟨b, k * 11 + 6, none⟩ = some (.int .i64 qpr) := hcell 6 _ rfl; have d7 : wr.cell? ⟨b, k * 11 + 7, none⟩ = some (.int .u32 qfr) := hcell 7 _ rfl; have d8 : wr.cell? ⟨b, k * 11 + 8, none⟩ = some (.int .u32 qto) := hcell 8 _ rfl; have d9 : wr.cell? ⟨b, k * 11 + 9, none⟩ = some (.slice qoA qo.length qoc) := hcell 9 _ rfl; have d10 : wr.cell? ⟨b, k * 11 + 10, none⟩ = some (.slice qdA qd.length qdc) := hcell 10 _ rfl
        have hqd : qd.length ≤ dn := hqd0
        have HQ1 : Hid (qoff = off + ((dat (M.take k)).length : Int)) := hid hat.1.1
        have hq2 : chk qsv qpid qoff qlf qpr qo qd.length = 0 := hat.1.2.1
        have hq3 : hl qo.length + qd.length ≤ m.toNat := hat.1.2.2
        have HM1 : Hid (k + 1 < N → qmo = true ∧ qd.length % 8 = 0) := hid (by have h9 := hat.2.1; rwa [HN.out] at h9)
        have hq40 : qo.length ≤ 40 := (chk0 hq2).2.1
        have K2 : KK w1.heap.size w2 wr := KK.of_nil HB2.out HB1.out
        have HQo := hid (hpdk.1.keep K2); have HQd0 := hid (hpdk.2.keep K2)
        have HQz : Hid (qdA = none → qdc = 0) := hid HQd0.out.2.2.2.1
        have hl20 : 20 ≤ hl qo.length := by unfold hl; omega
        have C3 := hid (C0.out.only HB.out (by simp))
        clear hcell hat hpdk hqd0 K2
        go_wp2_with fail
        refine (enc1 wr qsv qpid qoff qlf qpr qwh qmo qfr qto qoA qo.length qoc qdA qd.length qdc qo qd HQo.out.rd HQo.out.2.2.2.1 HQo.out.2.1 HQo.out.2.2.1 (by omega) HQd0.out.rd HQz.out (by omega) hq2).mono ?_
        rintro x w6 ⟨v6, rfl, hv6, o6⟩
        obtain ⟨A6, c6, rfl, _, _⟩ := own_form hv6
        obtain ⟨nb, hnb⟩ : ∃ nb, (encP qsv qpid qoff qlf qpr qwh qmo qfr qto qo qd).length = nb := ⟨_, rfl⟩
        have hnb2 : nb = hl qo.length + qd.length := by rw [← hnb, encP_len]
        rw [hnb]
        have hfit : ¬ m < (nb : Int) := by omega
        have hfitd : decide (m < (nb : Int)) = false := decide_eq_false hfit
        clear hnb2
        have HB6 := hid (HB.out.trans o6)
        have HB26 := hid (HB2.out.trans o6)
        have HQd := hid (HQd0.out.rd.only_nil o6)
        have HVl := hid (HV.out.only_nil o6)
        have C6 := hid (C3.out.only o6 (by simp))
        have t4 := o6.keep d4; have t3 := o6.keep d3; have t10 := o6.keep d10
        have b4 : w6.cell? ⟨w.heap.size, 4, none⟩ = some (.int .i64 off) := C6.out.cell 4
        obtain ⟨Aa, ca, rfl, _, _⟩ := own_form HV.out
        obtain ⟨un, hun⟩ : ∃ un, (dat (M.take k)).length = un := ⟨_, rfl⟩
        have HUn := hid hun
        rw [hun] at HUl
        rw [hun]
        have hq1b : qoff = off + (un : Int) := by rw [← hun]; exact HQ1.out
        subst hq1b
        have HOb : Hid (-100000 ≤ off ∧ off ≤ 100000) := hid (by
          have h9 := (chk0 hq2).1
          unfold Nums at h9
          have h8 := HUl.out
          omega)
        have hw9 : IntKind.i64.wrap (off + (un : Int)) = off + (un : Int) := i64_in _ (by have h9 := HOb.out; have h8 := HUl.out; omega)
        have HUl2 := hid hun
        have hwk : IntKind.i64.wrap ((k : Int) + 1) = (k : Int) + 1 := i64_in _ (by have h9 := HNb.out; rw [HN.out] at h9; omega)
        clear d0 d1 d2 d3 d4 d5 d6 d7 d8 d9 d10 o6 hv6 hnb hun hq2
        by_cases hlast : k + 1 < N
        · obtain ⟨rfl, hmod⟩ := HM1.out hlast
          have hlz : (k : Int) + 1 < (N : Int) := by omega
          have hlzd : decide ((k : Int) + 1 < (N : Int)) = true := decide_eq_true hlz
          have hmz : (qd.length : Int) % 8 = 0 := by omega
          have hmz2 : (qd.length : Int).tmod 8 = 0 := by rw [Int.tmod_eq_emod_of_nonneg (by omega)]; exact hmz
          go_wp2_with fail
          refine wp_region_noPanic ?_
          refine rgn.regionT (R := Only []) (by kernel_rfl) (Only.refl []) (fun _ _ _ => Only.trans) (fun _ _ _ _ _ h => h) (.y 0 (.y 1 (.y 2 (.y 3 (.y 4 (.y 5 (.y 6 (.y 7 (.y 8 (.y 9 (.y 10 (.y 11 (.y 12 (.y 13 (.y 14 (.y 15 (.y 16 (.y 17 (.y 18 (.y 19 (.y 20 (.y 21 (.y 22 (.y 23 (.y 24 (.y 25 (.y 26 (.y 27 (.y 28 (.y 29 (.y 30 (.y 31 (.y 32 (.y 33 (.y 34 (.y 35 (.y 36 (.y 37 (.y 38 (.y 39 (.y 40 (.y 41 (.y 42 (.y 43 (.y 44 (.y 45 .z)))))))))))))))))))))))))))))))))))))))))))))) (by kernel_rfl) (fun W hWd => ?_)
          have HWd := hid hWd; clear hWd
          have QW : Hid (Only [] w6 W) := hid (Only.eq_drew (Only.refl [] _) HWd.out)
          have y4 := QW.out.keep t4
          have y3 := QW.out.keep t3
          have y10 := QW.out.keep t10
          have x4 := QW.out.keep b4
          clear HWd
          refine rgn.Walk.ys (v := ?_) rfl rfl rfl ?_ ?_
          rotate_left 1
          · intro W' hW'
            go_simp
            try with_reducible rfl
          try simp only [Act.put, List.setIfInBounds_toArray, List.set_cons_zero, List.set_cons_succ]
          refine rgn.Walk.ys (v := ?_) rfl rfl rfl ?_ ?_
          rotate_left 1
          · intro W' hW'
            go_simp
            try with_reducible rfl
          try simp only [Act.put, List.setIfInBounds_toArray, List.set_cons_zero, List.set_cons_succ]
          refine rgn.Walk.ys (v := ?_) rfl rfl rfl ?_ ?_
          rotate_left 1
          · intro W' hW'
            go_simp
            try with_reducible rfl
          try simp only [Act.put, List.setIfInBounds_toArray, List.set_cons_zero, List.set_cons_succ]
          refine rgn.Walk.ys (v := ?_) rfl rfl rfl ?_ ?_
          rotate_left 1
          · intro W' hW'
            go_simp
            try with_reducible rfl
          try simp only [Act.put, List.setIfInBounds_toArray, List.set_cons_zero, List.set_cons_succ]
          refine rgn.Walk.ys (v := ?_) rfl rfl rfl ?_ ?_
          rotate_left 1
          · intro W' hW'
            go_simp
            try with_reducible rfl
          try simp only [Act.put, List.setIfInBounds_toArray, List.set_cons_zero, List.set_cons_succ]
          refine rgn.Walk.ys (v := ?_) rfl rfl rfl ?_ ?_
          rotate_left 1
          · intro W' hW'
            go_simp
            try with_reducible rfl
          try simp only [Act.put, List.setIfInBounds_toArray, List.set_cons_zero, List.set_cons_succ]
          refine rgn.Walk.ys (v := ?_) rfl rfl rfl ?_ ?_
          rotate_left 1
          · intro W' hW'
            go_simp
            try rw [hfitd]
            try with_reducible rfl
          try simp only [Act.put, List.setIfInBounds_toArray, List.set_cons_zero, List.set_cons_succ]
          refine rgn.Walk.ys (v := ?_) rfl rfl rfl ?_ ?_
          rotate_left 1
          · intro W' hW'
            go_simp
            try with_reducible rfl
          try simp only [Act.put, List.setIfInBounds_toArray, List.set_cons_zero, List.set_cons_succ]
          refine rgn.Walk.ys (v := ?_) rfl rfl rfl ?_ ?_
          rotate_left 1
          · intro W' hW'
            go_simp
            try with_reducible rfl
          try simp only [Act.put, List.setIfInBounds_toArray, List.set_cons_zero, List.set_cons_succ]
          refine rgn.Walk.ys (v := ?_) rfl rfl rfl ?_ ?_
          rotate_left 1
          · intro W' hW'
            go_simp
            try with_reducible rfl
          try simp only [Act.put, List.setIfInBounds_toArray, List.set_cons_zero, List.set_cons_succ]
          refine rgn.Walk.ys (v := ?_) rfl rfl rfl ?_ ?_
          rotate_left 1
          · intro W' hW'
            go_simp
            try with_reducible rfl
          try simp only [Act.put, List.setIfInBounds_toArray, List.set_cons_zero, List.set_cons_succ]
          refine rgn.Walk.ys (v := ?_) rfl rfl rfl ?_ ?_
          rotate_left 1
          · intro W' hW'
            go_simp
            try with_reducible rfl
          try simp only [Act.put, List.setIfInBounds_toArray, List.set_cons_zero, List.set_cons_succ]
          refine rgn.Walk.ys (v := ?_) rfl rfl rfl ?_ ?_
          rotate_left 1
          · intro W' hW'
            go_simp
            try with_reducible rfl
          try simp only [Act.put, List.setIfInBounds_toArray, List.set_cons_zero, List.set_cons_succ]
          refine rgn.Walk.ys (v := ?_) rfl rfl rfl ?_ ?_
          rotate_left 1
          · intro W' hW'
            have q0 := hW'.keep y4
            go_simp
            try with_reducible rfl
          try simp only [Act.put, List.setIfInBounds_toArray, List.set_cons_zero, List.set_cons_succ]
          refine rgn.Walk.ys (v := ?_) rfl rfl rfl ?_ ?_
          rotate_left 1
          · intro W' hW'
            go_simp
            try with_reducible rfl
          try simp only [Act.put, List.setIfInBounds_toArray, List.set_cons_zero, List.set_cons_succ]
          refine rgn.Walk.ys (v := ?_) rfl rfl rfl ?_ ?_
          rotate_left 1
          · intro W' hW'
            have q0 := hW'.keep x4
            go_simp
            try with_reducible rfl
          try simp only [Act.put, List.setIfInBounds_toArray, List.set_cons_zero, List.set_cons_succ]
          refine rgn.Walk.ys (v := ?_) rfl rfl rfl ?_ ?_
          rotate_left 1
          · intro W' hW'
            go_simp
            try with_reducible rfl
          try simp only [Act.put, List.setIfInBounds_toArray, List.set_cons_zero, List.set_cons_succ]
          refine rgn.Walk.ys (v := ?_) rfl rfl rfl ?_ ?_
          rotate_left 1
          · intro W' hW'
            go_simp
            try with_reducible rfl
          try simp only [Act.put, List.setIfInBounds_toArray, List.set_cons_zero, List.set_cons_succ]
          refine rgn.Walk.ys (v := ?_) rfl rfl rfl ?_ ?_
          rotate_left 1
          · intro W' hW'
            go_simp
            try with_reducible rfl
          try simp only [Act.put, List.setIfInBounds_toArray, List.set_cons_zero, List.set_cons_succ]
          refine rgn.Walk.ys (v := ?_) rfl rfl rfl ?_ ?_
          rotate_left 1
          · intro W' hW'
            go_simp
            try with_reducible rfl
          try simp only [Act.put, List.setIfInBounds_toArray, List.set_cons_zero, List.set_cons_succ]
          refine rgn.Walk.ys (v := ?_) rfl rfl rfl ?_ ?_
          rotate_left 1
          · intro W' hW'
            go_simp
            try with_reducible rfl
          try simp only [Act.put, List.setIfInBounds_toArray, List.set_cons_zero, List.set_cons_succ]
          refine rgn.Walk.ys (v := ?_) rfl rfl rfl ?_ ?_
          rotate_left 1
          · intro W' hW'
            go_simp
            try with_reducible rfl
          try simp only [Act.put, List.setIfInBounds_toArray, List.set_cons_zero, List.set_cons_succ]
          refine rgn.Walk.ys (v := ?_) rfl rfl rfl ?_ ?_
          rotate_left 1
          · intro W' hW'
            go_simp
            try with_reducible rfl
          try simp only [Act.put, List.setIfInBounds_toArray, List.set_cons_zero, List.set_cons_succ]
          refine rgn.Walk.ys (v := ?_) rfl rfl rfl ?_ ?_
          rotate_left 1
          · intro W' hW'
            go_simp
            try with_reducible rfl
          try simp only [Act.put, List.setIfInBounds_toArray, List.set_cons_zero, List.set_cons_succ]
          refine rgn.Walk.ys (v := ?_) rfl rfl rfl ?_ ?_
          rotate_left 1
          · intro W' hW'
            go_simp
            try with_reducible rfl
          try simp only [Act.put, List.setIfInBounds_toArray, List.set_cons_zero, List.set_cons_succ]
          refine rgn.Walk.ys (v := ?_) rfl rfl rfl ?_ ?_
          rotate_left 1
          · intro W' hW'
            go_simp
            try with_reducible rfl
          try simp only [Act.put, List.setIfInBounds_toArray, List.set_cons_zero, List.set_cons_succ]
          refine rgn.Walk.ys (v := ?_) rfl rfl rfl ?_ ?_
          rotate_left 1
          · intro W' hW'
            go_simp
            try rw [hlzd]
            try with_reducible rfl
          try simp only [Act.put, List.setIfInBounds_toArray, List.set_cons_zero, List.set_cons_succ]
          refine rgn.Walk.ys (v := ?_) rfl rfl rfl ?_ ?_
          rotate_left 1
          · intro W' hW'
            go_simp
            try with_reducible rfl
          try simp only [Act.put, List.setIfInBounds_toArray, List.set_cons_zero, List.set_cons_succ]
          refine rgn.Walk.ys (v := ?_) rfl rfl rfl ?_ ?_
          rotate_left 1
          · intro W' hW'
            go_simp
            try with_reducible rfl
          try simp only [Act.put, List.setIfInBounds_toArray, List.set_cons_zero, List.set_cons_succ]
          refine rgn.Walk.ys (v := ?_) rfl rfl rfl ?_ ?_
          rotate_left 1
          · intro W' hW'
            go_simp
            try with_reducible rfl
          try simp only [Act.put, List.setIfInBounds_toArray, List.set_cons_zero, List.set_cons_succ]
          refine rgn.Walk.ys (v := ?_) rfl rfl rfl ?_ ?_
          rotate_left 1
          · intro W' hW'
            go_simp
            try with_reducible rfl
          try simp only [Act.put, List.setIfInBounds_toArray, List.set_cons_zero, List.set_cons_succ]
          refine rgn.Walk.ys (v := ?_) rfl rfl rfl ?_ ?_
          rotate_left 1
          · intro W' hW'
            go_simp
            try with_reducible rfl
          try simp only [Act.put, List.setIfInBounds_toArray, List.set_cons_zero, List.set_cons_succ]
          refine rgn.Walk.ys (v := ?_) rfl rfl rfl ?_ ?_
          rotate_left 1
          · intro W' hW'
            have q0 := hW'.keep y10
            go_simp
            try with_reducible rfl
          try simp only [Act.put, List.setIfInBounds_toArray, List.set_cons_zero, List.set_cons_succ]
          refine rgn.Walk.ys (v := ?_) rfl rfl rfl ?_ ?_
          rotate_left 1
          · intro W' hW'
            go_simp
            try with_reducible rfl
          try simp only [Act.put, List.setIfInBounds_toArray, List.set_cons_zero, List.set_cons_succ]
          refine rgn.Walk.ys (v := ?_) rfl rfl rfl ?_ ?_
          rotate_left 1
          · intro W' hW'
            go_simp
            try with_reducible rfl
          try simp only [Act.put, List.setIfInBounds_toArray, List.set_cons_zero, List.set_cons_succ]
          refine rgn.Walk.ys (v := ?_) rfl rfl rfl ?_ ?_
          rotate_left 1
          · intro W' hW'
            go_simp
            try with_reducible rfl
          try simp only [Act.put, List.setIfInBounds_toArray, List.set_cons_zero, List.set_cons_succ]
          refine rgn.Walk.ys (v := ?_) rfl rfl rfl ?_ ?_
          rotate_left 1
          · intro W' hW'
            go_simp
            try with_reducible rfl
          try simp only [Act.put, List.setIfInBounds_toArray, List.set_cons_zero, List.set_cons_succ]
          refine rgn.Walk.ys (v := ?_) rfl rfl rfl ?_ ?_
          rotate_left 1
          · intro W' hW'
            go_simp
            try with_reducible rfl
          try simp only [Act.put, List.setIfInBounds_toArray, List.set_cons_zero, List.set_cons_succ]
          refine rgn.Walk.ys (v := ?_) rfl rfl rfl ?_ ?_
          rotate_left 1
          · intro W' hW'
            go_simp
            try with_reducible rfl
          try simp only [Act.put, List.setIfInBounds_toArray, List.set_cons_zero, List.set_cons_succ]
          refine rgn.Walk.ys (v := ?_) rfl rfl rfl ?_ ?_
          rotate_left 1
          · intro W' hW'
            go_simp
            try with_reducible rfl
          try simp only [Act.put, List.setIfInBounds_toArray, List.set_cons_zero, List.set_cons_succ]
          refine rgn.Walk.ys (v := ?_) rfl rfl rfl ?_ ?_
          rotate_left 1
          · intro W' hW'
            go_simp
            try with_reducible rfl
          try simp only [Act.put, List.setIfInBounds_toArray, List.set_cons_zero, List.set_cons_succ]
          refine rgn.Walk.ys (v := ?_) rfl rfl rfl ?_ ?_
          rotate_left 1
          · intro W' hW'
            have q0 := hW'.keep y3
            go_simp
            try with_reducible rfl
          try simp only [Act.put, List.setIfInBounds_toArray, List.set_cons_zero, List.set_cons_succ]
          refine rgn.Walk.ys (v := ?_) rfl rfl rfl ?_ ?_
          rotate_left 1
          · intro W' hW'
            go_simp
            try with_reducible rfl
          try simp only [Act.put, List.setIfInBounds_toArray, List.set_cons_zero, List.set_cons_succ]
          refine rgn.Walk.ys (v := ?_) rfl rfl rfl ?_ ?_
          rotate_left 1
          · intro W' hW'
            go_simp
            try with_reducible rfl
          try simp only [Act.put, List.setIfInBounds_toArray, List.set_cons_zero, List.set_cons_succ]
          refine rgn.Walk.ys (v := ?_) rfl rfl rfl ?_ ?_
          rotate_left 1
          · intro W' hW'
            go_simp
            try with_reducible rfl
          try simp only [Act.put, List.setIfInBounds_toArray, List.set_cons_zero, List.set_cons_succ]
          refine rgn.Walk.ys (v := ?_) rfl rfl rfl ?_ ?_
          rotate_left 1
          · intro W' hW'
            go_simp
            try with_reducible rfl
          try simp only [Act.put, List.setIfInBounds_toArray, List.set_cons_zero, List.set_cons_succ]
          refine rgn.Walk.zs (NoPanic.normal ?_)
          clear hw9 hwk
          have HVa : Hid (Own .u8 5 W w.heap.size (.slice Aa un ca) (dat (M.take k))) := hid (by have h9 := HVl.out.only_nil QW.out; rwa [HUl2.out] at h9)
          have HVlw : Hid (∀ j, (Value.slice Aa un ca).ownBlock = some j → w2.heap.size ≤ j) := hid (by have h9 := HVlow.out; rwa [HUl2.out] at h9)
          have hb7 : w.heap.size ≤ W.heap.size := Nat.le_trans Q0.out.size (Nat.le_trans HB6.out.size QW.out.size)
          have HQd2 := hid (HQd.out.only_nil QW.out)
          have hle : (dat (M.take k)).length ≤ dn := by rw [HUl2.out]; exact HUl.out
          go_wp2_with (at_builtin; refine wpList_app _ rfl (.tmp 87) (.tmp 92) _ rfl wrt.elemB w.heap.size (.slice Aa un ca) (dat (M.take k)) rfl HVa.out qdA qd.length qdc qd rfl HQd2.out HQz.out (by omega) (by unfold maxLen; omega) hb7 ?_)
          intro v7 w7 hv7 hg7 hb8
          have HV7 : Hid (Own .u8 5 w7 w.heap.size v7 (dat (M.take (k + 1)))) := hid (by rw [HTk.out, dat_snoc]; exact hv7)
          have HB7 : Hid (Only [] W0 w7) := hid ((HB6.out.trans QW.out).of_grown hg7 (fun i hi => .inr (by have h9 := HVlw.out i hi; have := Q2.out.size; omega)))
          have HB27 : Hid (Only [] w2 w7) := hid ((HB26.out.trans QW.out).of_grown hg7 (fun i hi => .inr (by have h9 := HVlw.out i hi; have := Q2.out.size; omega)))
          have HL7 : Hid (∀ j, v7.ownBlock = some j → w2.heap.size ≤ j) := hid (fun j hj => by
            rcases hb8 with h | h
            · exact HVlw.out j (h ▸ hj)
            · rw [h] at hj; have h9 : W.heap.size = j := by simpa using hj
              have := HB26.out.size; have := QW.out.size; omega)
          have hkb : k + 1 ≤ 9223372036854775807 := by have h9 := HNb.out; have h8 := HK1.out; rw [HN.out] at h9; omega
          clear hv7 hg7 hb8
          go_wp2_with fail
          go_roundw
          case rel => exact ⟨k + 1, v7, rfl, by first | rfl | go_num, HK1.out, HV7, HL7, HB7, HB27⟩
          case measure => simp [RowKit.intOf]; have := HK1.out; omega
        · have hlz : ¬ (k : Int) + 1 < (N : Int) := by omega
          have hlzd : decide ((k : Int) + 1 < (N : Int)) = false := decide_eq_false hlz
          go_wp2_with fail
          refine wp_region_noPanic ?_
          refine rgn.regionT (R := Only []) (by kernel_rfl) (Only.refl []) (fun _ _ _ => Only.trans) (fun _ _ _ _ _ h => h) (.y 0 (.y 1 (.y 2 (.y 3 (.y 4 (.y 5 (.y 6 (.y 7 (.y 8 (.y 9 (.y 10 (.y 11 (.y 12 (.y 13 (.y 14 (.y 15 (.y 16 (.y 17 (.y 18 (.y 19 (.y 20 (.y 21 (.y 22 (.y 23 (.y 24 (.y 25 (.y 26 (.y 27 (.y 28 (.y 29 (.y 30 (.y 31 (.y 32 (.y 33 (.y 34 (.y 35 (.y 36 (.y 37 (.y 38 (.y 39 (.y 40 (.y 41 (.y 42 (.y 43 (.y 44 (.y 45 .z)))))))))))))))))))))))))))))))))))))))))))))) (by kernel_rfl) (fun W hWd => ?_)
          have HWd := hid hWd; clear hWd
          have QW : Hid (Only [] w6 W) := hid (Only.eq_drew (Only.refl [] _) HWd.out)
          have y4 := QW.out.keep t4
          have y3 := QW.out.keep t3
          have y10 := QW.out.keep t10
          have x4 := QW.out.keep b4
          clear HWd
          refine rgn.Walk.ys (v := ?_) rfl rfl rfl ?_ ?_
          rotate_left 1
          · intro W' hW'
            go_simp
            try with_reducible rfl
          try simp only [Act.put, List.setIfInBounds_toArray, List.set_cons_zero, List.set_cons_succ]
          refine rgn.Walk.ys (v := ?_) rfl rfl rfl ?_ ?_
          rotate_left 1
          · intro W' hW'
            go_simp
            try with_reducible rfl
          try simp only [Act.put, List.setIfInBounds_toArray, List.set_cons_zero, List.set_cons_succ]
          refine rgn.Walk.ys (v := ?_) rfl rfl rfl ?_ ?_
          rotate_left 1
          · intro W' hW'
            go_simp
            try with_reducible rfl
          try simp only [Act.put, List.setIfInBounds_toArray, List.set_cons_zero, List.set_cons_succ]
          refine rgn.Walk.ys (v := ?_) rfl rfl rfl ?_ ?_
          rotate_left 1
          · intro W' hW'
            go_simp
            try with_reducible rfl
          try simp only [Act.put, List.setIfInBounds_toArray, List.set_cons_zero, List.set_cons_succ]
          refine rgn.Walk.ys (v := ?_) rfl rfl rfl ?_ ?_
          rotate_left 1
          · intro W' hW'
            go_simp
            try with_reducible rfl
          try simp only [Act.put, List.setIfInBounds_toArray, List.set_cons_zero, List.set_cons_succ]
          refine rgn.Walk.ys (v := ?_) rfl rfl rfl ?_ ?_
          rotate_left 1
          · intro W' hW'
            go_simp
            try with_reducible rfl
          try simp only [Act.put, List.setIfInBounds_toArray, List.set_cons_zero, List.set_cons_succ]
          refine rgn.Walk.ys (v := ?_) rfl rfl rfl ?_ ?_
          rotate_left 1
          · intro W' hW'
            go_simp
            try rw [hfitd]
            try with_reducible rfl
          try simp only [Act.put, List.setIfInBounds_toArray, List.set_cons_zero, List.set_cons_succ]
          refine rgn.Walk.ys (v := ?_) rfl rfl rfl ?_ ?_
          rotate_left 1
          · intro W' hW'
            go_simp
            try with_reducible rfl
          try simp only [Act.put, List.setIfInBounds_toArray, List.set_cons_zero, List.set_cons_succ]
          refine rgn.Walk.ys (v := ?_) rfl rfl rfl ?_ ?_
          rotate_left 1
          · intro W' hW'
            go_simp
            try with_reducible rfl
          try simp only [Act.put, List.setIfInBounds_toArray, List.set_cons_zero, List.set_cons_succ]
          refine rgn.Walk.ys (v := ?_) rfl rfl rfl ?_ ?_
          rotate_left 1
          · intro W' hW'
            go_simp
            try with_reducible rfl
          try simp only [Act.put, List.setIfInBounds_toArray, List.set_cons_zero, List.set_cons_succ]
          refine rgn.Walk.ys (v := ?_) rfl rfl rfl ?_ ?_
          rotate_left 1
          · intro W' hW'
            go_simp
            try with_reducible rfl
          try simp only [Act.put, List.setIfInBounds_toArray, List.set_cons_zero, List.set_cons_succ]
          refine rgn.Walk.ys (v := ?_) rfl rfl rfl ?_ ?_
          rotate_left 1
          · intro W' hW'
            go_simp
            try with_reducible rfl
          try simp only [Act.put, List.setIfInBounds_toArray, List.set_cons_zero, List.set_cons_succ]
          refine rgn.Walk.ys (v := ?_) rfl rfl rfl ?_ ?_
          rotate_left 1
          · intro W' hW'
            go_simp
            try with_reducible rfl
          try simp only [Act.put, List.setIfInBounds_toArray, List.set_cons_zero, List.set_cons_succ]
          refine rgn.Walk.ys (v := ?_) rfl rfl rfl ?_ ?_
          rotate_left 1
          · intro W' hW'
            have q0 := hW'.keep y4
            go_simp
            try with_reducible rfl
          try simp only [Act.put, List.setIfInBounds_toArray, List.set_cons_zero, List.set_cons_succ]
          refine rgn.Walk.ys (v := ?_) rfl rfl rfl ?_ ?_
          rotate_left 1
          · intro W' hW'
            go_simp
            try with_reducible rfl
          try simp only [Act.put, List.setIfInBounds_toArray, List.set_cons_zero, List.set_cons_succ]
          refine rgn.Walk.ys (v := ?_) rfl rfl rfl ?_ ?_
          rotate_left 1
          · intro W' hW'
            have q0 := hW'.keep x4
            go_simp
            try with_reducible rfl
          try simp only [Act.put, List.setIfInBounds_toArray, List.set_cons_zero, List.set_cons_succ]
          refine rgn.Walk.ys (v := ?_) rfl rfl rfl ?_ ?_
          rotate_left 1
          · intro W' hW'
            go_simp
            try with_reducible rfl
          try simp only [Act.put, List.setIfInBounds_toArray, List.set_cons_zero, List.set_cons_succ]
          refine rgn.Walk.ys (v := ?_) rfl rfl rfl ?_ ?_
          rotate_left 1
          · intro W' hW'
            go_simp
            try with_reducible rfl
          try simp only [Act.put, List.setIfInBounds_toArray, List.set_cons_zero, List.set_cons_succ]
          refine rgn.Walk.ys (v := ?_) rfl rfl rfl ?_ ?_
          rotate_left 1
          · intro W' hW'
            go_simp
            try with_reducible rfl
          try simp only [Act.put, List.setIfInBounds_toArray, List.set_cons_zero, List.set_cons_succ]
          refine rgn.Walk.ys (v := ?_) rfl rfl rfl ?_ ?_
          rotate_left 1
          · intro W' hW'
            go_simp
            try with_reducible rfl
          try simp only [Act.put, List.setIfInBounds_toArray, List.set_cons_zero, List.set_cons_succ]
          refine rgn.Walk.ys (v := ?_) rfl rfl rfl ?_ ?_
          rotate_left 1
          · intro W' hW'
            go_simp
            try with_reducible rfl
          try simp only [Act.put, List.setIfInBounds_toArray, List.set_cons_zero, List.set_cons_succ]
          refine rgn.Walk.ys (v := ?_) rfl rfl rfl ?_ ?_
          rotate_left 1
          · intro W' hW'
            go_simp
            try with_reducible rfl
          try simp only [Act.put, List.setIfInBounds_toArray, List.set_cons_zero, List.set_cons_succ]
          refine rgn.Walk.ys (v := ?_) rfl rfl rfl ?_ ?_
          rotate_left 1
          · intro W' hW'
            go_simp
            try with_reducible rfl
          try simp only [Act.put, List.setIfInBounds_toArray, List.set_cons_zero, List.set_cons_succ]
          refine rgn.Walk.ys (v := ?_) rfl rfl rfl ?_ ?_
          rotate_left 1
          · intro W' hW'
            go_simp
            try with_reducible rfl
          try simp only [Act.put, List.setIfInBounds_toArray, List.set_cons_zero, List.set_cons_succ]
          refine rgn.Walk.ys (v := ?_) rfl rfl rfl ?_ ?_
          rotate_left 1
          · intro W' hW'
            go_simp
            try with_reducible rfl
          try simp only [Act.put, List.setIfInBounds_toArray, List.set_cons_zero, List.set_cons_succ]
          refine rgn.Walk.ys (v := ?_) rfl rfl rfl ?_ ?_
          rotate_left 1
          · intro W' hW'
            go_simp
            try with_reducible rfl
          try simp only [Act.put, List.setIfInBounds_toArray, List.set_cons_zero, List.set_cons_succ]
          refine rgn.Walk.ys (v := ?_) rfl rfl rfl ?_ ?_
          rotate_left 1
          · intro W' hW'
            go_simp
            try rw [hlzd]
            try with_reducible rfl
          try simp only [Act.put, List.setIfInBounds_toArray, List.set_cons_zero, List.set_cons_succ]
          refine rgn.Walk.ys (v := ?_) rfl rfl rfl ?_ ?_
          rotate_left 1
          · intro W' hW'
            go_simp
            try with_reducible rfl
          try simp only [Act.put, List.setIfInBounds_toArray, List.set_cons_zero, List.set_cons_succ]
          refine rgn.Walk.yn rfl rfl rfl ?_
          try simp only [Act.put, List.setIfInBounds_toArray, List.set_cons_zero, List.set_cons_succ]
          refine rgn.Walk.yn rfl rfl rfl ?_
          try simp only [Act.put, List.setIfInBounds_toArray, List.set_cons_zero, List.set_cons_succ]
          refine rgn.Walk.yn rfl rfl rfl ?_
          try simp only [Act.put, List.setIfInBounds_toArray, List.set_cons_zero, List.set_cons_succ]
          refine rgn.Walk.yn rfl rfl rfl ?_
          try simp only [Act.put, List.setIfInBounds_toArray, List.set_cons_zero, List.set_cons_succ]
          refine rgn.Walk.yn rfl rfl rfl ?_
          try simp only [Act.put, List.setIfInBounds_toArray, List.set_cons_zero, List.set_cons_succ]
          refine rgn.Walk.yn rfl rfl rfl ?_
          try simp only [Act.put, List.setIfInBounds_toArray, List.set_cons_zero, List.set_cons_succ]
          refine rgn.Walk.yn rfl rfl rfl ?_
          try simp only [Act.put, List.setIfInBounds_toArray, List.set_cons_zero, List.set_cons_succ]
          refine rgn.Walk.yn rfl rfl rfl ?_
          try simp only [Act.put, List.setIfInBounds_toArray, List.set_cons_zero, List.set_cons_succ]
          refine rgn.Walk.yn rfl rfl rfl ?_
          try simp only [Act.put, List.setIfInBounds_toArray, List.set_cons_zero, List.set_cons_succ]
          refine rgn.Walk.yn rfl rfl rfl ?_
          try simp only [Act.put, List.setIfInBounds_toArray, List.set_cons_zero, List.set_cons_succ]
          refine rgn.Walk.yn rfl rfl rfl ?_
          try simp only [Act.put, List.setIfInBounds_toArray, List.set_cons_zero, List.set_cons_succ]
          refine rgn.Walk.yn rfl rfl rfl ?_
          try simp only [Act.put, List.setIfInBounds_toArray, List.set_cons_zero, List.set_cons_succ]
          refine rgn.Walk.yn rfl rfl rfl ?_
          try simp only [Act.put, List.setIfInBounds_toArray, List.set_cons_zero, List.set_cons_succ]
          refine rgn.Walk.yn rfl rfl rfl ?_
          try simp only [Act.put, List.setIfInBounds_toArray, List.set_cons_zero, List.set_cons_succ]
          refine rgn.Walk.yn rfl rfl rfl ?_
          try simp only [Act.put, List.setIfInBounds_toArray, List.set_cons_zero, List.set_cons_succ]
          refine rgn.Walk.yn rfl rfl rfl ?_
          try simp only [Act.put, List.setIfInBounds_toArray, List.set_cons_zero, List.set_cons_succ]
          refine rgn.Walk.ys (v := ?_) rfl rfl rfl ?_ ?_
          rotate_left 1
          · intro W' hW'
            go_simp
            try with_reducible rfl
          try simp only [Act.put, List.setIfInBounds_toArray, List.set_cons_zero, List.set_cons_succ]
          refine rgn.Walk.ys (v := ?_) rfl rfl rfl ?_ ?_
          rotate_left 1
          · intro W' hW'
            go_simp
            try with_reducible rfl
          try simp only [Act.put, List.setIfInBounds_toArray, List.set_cons_zero, List.set_cons_succ]
          refine rgn.Walk.zs (NoPanic.normal ?_)
          clear hw9 hwk
          have HVa : Hid (Own .u8 5 W w.heap.size (.slice Aa un ca) (dat (M.take k))) := hid (by have h9 := HVl.out.only_nil QW.out; rwa [HUl2.out] at h9)
          have HVlw : Hid (∀ j, (Value.slice Aa un ca).ownBlock = some j → w2.heap.size ≤ j) := hid (by have h9 := HVlow.out; rwa [HUl2.out] at h9)
          have hb7 : w.heap.size ≤ W.heap.size := Nat.le_trans Q0.out.size (Nat.le_trans HB6.out.size QW.out.size)
          have HQd2 := hid (HQd.out.only_nil QW.out)
          have hle : (dat (M.take k)).length ≤ dn := by rw [HUl2.out]; exact HUl.out
          go_wp2_with (at_builtin; refine wpList_app _ rfl (.tmp 87) (.tmp 92) _ rfl wrt.elemB w.heap.size (.slice Aa un ca) (dat (M.take k)) rfl HVa.out qdA qd.length qdc qd rfl HQd2.out HQz.out (by omega) (by unfold maxLen; omega) hb7 ?_)
          intro v7 w7 hv7 hg7 hb8
          have HV7 : Hid (Own .u8 5 w7 w.heap.size v7 (dat (M.take (k + 1)))) := hid (by rw [HTk.out, dat_snoc]; exact hv7)
          have HB7 : Hid (Only [] W0 w7) := hid ((HB6.out.trans QW.out).of_grown hg7 (fun i hi => .inr (by have h9 := HVlw.out i hi; have := Q2.out.size; omega)))
          have HB27 : Hid (Only [] w2 w7) := hid ((HB26.out.trans QW.out).of_grown hg7 (fun i hi => .inr (by have h9 := HVlw.out i hi; have := Q2.out.size; omega)))
          have HL7 : Hid (∀ j, v7.ownBlock = some j → w2.heap.size ≤ j) := hid (fun j hj => by
            rcases hb8 with h | h
            · exact HVlw.out j (h ▸ hj)
            · rw [h] at hj; have h9 : W.heap.size = j := by simpa using hj
              have := HB26.out.size; have := QW.out.size; omega)
          have hkb : k + 1 ≤ 9223372036854775807 := by have h9 := HNb.out; have h8 := HK1.out; rw [HN.out] at h9; omega
          clear hv7 hg7 hb8
          go_wp2_with fail
          go_roundw
          case rel => exact ⟨k + 1, v7, rfl, by first | rfl | go_num, HK1.out, HV7, HL7, HB7, HB27⟩
          case measure => simp [RowKit.intOf]; have := HK1.out; omega
      · have hkN : k = N := by omega
        have hkl : k = M.length := by rw [HN.out]; exact hkN
        have HDk : Hid (dat (M.take k) = d) := hid (by rw [List.take_of_length_le (by omega)]; exact HDt.out)
        have hN1 : N - 1 < M.length := by rw [HN.out]; omega
        have hat := whole_at HWh.out (N - 1) hN1
        obtain ⟨b, bo, rfl, hb, hcell⟩ := RowP.at (w := wr) (A := A2) (L := M) (by
          have h9 := RdS.only_nil HRw.out HB2.out
          exact h9) (N - 1) hN1
        obtain rfl : bo = 0 := (HBlk.out b bo rfl).1
        simp only [Nat.zero_add] at hcell
        have hmo : (M.getD (N - 1) pk0).mo = mo := hat.2.2 (by rw [HN.out]; omega)
        have t3 : wr.cell? ⟨b, (N - 1) * 11 + 3, none⟩ = some (.bool mo) := by rw [← hmo]; exact hcell 3 _ rfl
        have C3 := hid (C0.out.only HB.out (by simp))
        have b3 : wr.cell? ⟨w.heap.size, 3, none⟩ = some (.bool mo) := C3.out.cell 3
        have b10 : wr.cell? ⟨w.heap.size, 10, none⟩ = some (.slice dA dn dc) := C3.out.cell 10
        have hNz : (0 : Int) < (N : Int) := by omega
        have hN1z : (N : Int) - 1 = ((N - 1 : Nat) : Int) := by omega
        obtain ⟨N1, hN1e⟩ : ∃ N1, N - 1 = N1 := ⟨_, rfl⟩
        rw [hN1e] at t3 hN1z
        have hN1l : N1 < N := by omega
        have hN1m : (N1 : Int) < (N : Int) := by omega
        have hwN : IntKind.i64.wrap ((N1 : Nat) : Int) = ((N1 : Nat) : Int) := i64_in _ (by have h9 := HNb.out; rw [HN.out] at h9; omega)
        have hV := HV.out
        rw [HDk.out] at hV
        obtain ⟨Aa, ca, rfl, hAr, _⟩ := own_form hV
        rw [Hdn.out] at hAr
        rw [Hdn.out]
        have HAr := hid hAr
        have HDr := hid (HD.out.only_nil HB.out)
        clear hcell hat hmo hV hAr hN1 hN1e hkl
        go_wp2_with fail
        refine wp_region_noPanic ?_
        refine rgn.regionT (R := Only []) (by kernel_rfl) (Only.refl []) (fun _ _ _ => Only.trans) (fun _ _ _ _ _ h => h) (.y 0 (.y 1 (.y 2 (.y 3 (.y 4 (.y 5 (.y 6 (.y 7 (.y 8 (.y 9 (.y 10 (.y 11 (.y 12 (.y 13 (.y 14 (.y 15 (.y 16 (.y 17 (.y 18 (.e 19 (.y 20 (.y 21 (.e 22 (.y 23 (.e 24 .z))))))))))))))))))))))))) (by kernel_rfl) (fun W hWd => ?_)
        have HWd := hid hWd; clear hWd
        have QW : Hid (Only [] wr W) := hid (Only.eq_drew (Only.refl [] _) HWd.out)
        have y3 := QW.out.keep t3
        have x3 := QW.out.keep b3
        have x10 := QW.out.keep b10
        clear HWd
        refine rgn.Walk.ys (v := ?_) rfl rfl rfl ?_ ?_
        rotate_left 1
        · intro W' hW'
          go_simp
          try with_reducible rfl
        try simp only [Act.put, List.setIfInBounds_toArray, List.set_cons_zero, List.set_cons_succ]
        refine rgn.Walk.ys (v := ?_) rfl rfl rfl ?_ ?_
        rotate_left 1
        · intro W' hW'
          go_simp
          try with_reducible rfl
        try simp only [Act.put, List.setIfInBounds_toArray, List.set_cons_zero, List.set_cons_succ]
        refine rgn.Walk.ys (v := ?_) rfl rfl rfl ?_ ?_
        rotate_left 1
        · intro W' hW'
          go_simp
          try with_reducible rfl
        try simp only [Act.put, List.setIfInBounds_toArray, List.set_cons_zero, List.set_cons_succ]
        refine rgn.Walk.ys (v := ?_) rfl rfl rfl ?_ ?_
        rotate_left 1
        · intro W' hW'
          go_simp
          try with_reducible rfl
        try simp only [Act.put, List.setIfInBounds_toArray, List.set_cons_zero, List.set_cons_succ]
        refine rgn.Walk.ys (v := ?_) rfl rfl rfl ?_ ?_
        rotate_left 1
        · intro W' hW'
          go_simp
          try with_reducible rfl
        try simp only [Act.put, List.setIfInBounds_toArray, List.set_cons_zero, List.set_cons_succ]
        refine rgn.Walk.ys (v := ?_) rfl rfl rfl ?_ ?_
        rotate_left 1
        · intro W' hW'
          go_simp
          try with_reducible rfl
        try simp only [Act.put, List.setIfInBounds_toArray, List.set_cons_zero, List.set_cons_succ]
        refine rgn.Walk.ys (v := ?_) rfl rfl rfl ?_ ?_
        rotate_left 1
        · intro W' hW'
          go_simp
          try with_reducible rfl
        try simp only [Act.put, List.setIfInBounds_toArray, List.set_cons_zero, List.set_cons_succ]
        refine rgn.Walk.ys (v := ?_) rfl rfl rfl ?_ ?_
        rotate_left 1
        · intro W' hW'
          go_simp
          try with_reducible rfl
        try simp only [Act.put, List.setIfInBounds_toArray, List.set_cons_zero, List.set_cons_succ]
        refine rgn.Walk.ys (v := ?_) rfl rfl rfl ?_ ?_
        rotate_left 1
        · intro W' hW'
          go_simp
          try with_reducible rfl
        try simp only [Act.put, List.setIfInBounds_toArray, List.set_cons_zero, List.set_cons_succ]
        refine rgn.Walk.ys (v := ?_) rfl rfl rfl ?_ ?_
        rotate_left 1
        · intro W' hW'
          go_simp
          try with_reducible rfl
        try simp only [Act.put, List.setIfInBounds_toArray, List.set_cons_zero, List.set_cons_succ]
        refine rgn.Walk.ys (v := ?_) rfl rfl rfl ?_ ?_
        rotate_left 1
        · intro W' hW'
          have q0 := hW'.keep y3
          go_simp
          try with_reducible rfl
        try simp only [Act.put, List.setIfInBounds_toArray, List.set_cons_zero, List.set_cons_succ]
        refine rgn.Walk.ys (v := ?_) rfl rfl rfl ?_ ?_
        rotate_left 1
        · intro W' hW'
          go_simp
          try with_reducible rfl
        try simp only [Act.put, List.setIfInBounds_toArray, List.set_cons_zero, List.set_cons_succ]
        refine rgn.Walk.ys (v := ?_) rfl rfl rfl ?_ ?_
        rotate_left 1
        · intro W' hW'
          have q0 := hW'.keep x3
          go_simp
          try with_reducible rfl
        try simp only [Act.put, List.setIfInBounds_toArray, List.set_cons_zero, List.set_cons_succ]
        refine rgn.Walk.ys (v := ?_) rfl rfl rfl ?_ ?_
        rotate_left 1
        · intro W' hW'
          go_simp
          try with_reducible rfl
        try simp only [Act.put, List.setIfInBounds_toArray, List.set_cons_zero, List.set_cons_succ]
        refine rgn.Walk.ys (v := ?_) rfl rfl rfl ?_ ?_
        rotate_left 1
        · intro W' hW'
          go_simp
          try with_reducible rfl
        try simp only [Act.put, List.setIfInBounds_toArray, List.set_cons_zero, List.set_cons_succ]
        refine rgn.Walk.ys (v := ?_) rfl rfl rfl ?_ ?_
        rotate_left 1
        · intro W' hW'
          go_simp
          try with_reducible rfl
        try simp only [Act.put, List.setIfInBounds_toArray, List.set_cons_zero, List.set_cons_succ]
        refine rgn.Walk.ys (v := ?_) rfl rfl rfl ?_ ?_
        rotate_left 1
        · intro W' hW'
          go_simp
          try with_reducible rfl
        try simp only [Act.put, List.setIfInBounds_toArray, List.set_cons_zero, List.set_cons_succ]
        refine rgn.Walk.ys (v := ?_) rfl rfl rfl ?_ ?_
        rotate_left 1
        · intro W' hW'
          go_simp
          try with_reducible rfl
        try simp only [Act.put, List.setIfInBounds_toArray, List.set_cons_zero, List.set_cons_succ]
        refine rgn.Walk.ys (v := ?_) rfl rfl rfl ?_ ?_
        rotate_left 1
        · intro W' hW'
          have q0 := hW'.keep x10
          go_simp
          try with_reducible rfl
        try simp only [Act.put, List.setIfInBounds_toArray, List.set_cons_zero, List.set_cons_succ]
        refine rgn.Walk.es ?_
        refine rgn.stepE rfl rfl (fun K hK => ?_)
        go_simp
        refine (hlp.same _ Aa dA dn dn ca dc d d (HAr.out.only_nil QW.out) (HDr.out.only_nil QW.out) (by omega) (by omega)).mono ?_
        rintro x w8 ⟨rfl, nq, rfl⟩
        rw [show decide (d = d) = true from decide_eq_true rfl]
        refine hK _ _ ((Only.refl [] _).drewN nq) ?_
        clear hK K
        have QW := hid (QW.out.drewN nq)
        try simp only [Act.put, List.setIfInBounds_toArray, List.set_cons_zero, List.set_cons_succ]
        refine rgn.Walk.ys (v := ?_) rfl rfl rfl ?_ ?_
        rotate_left 1
        · intro W' hW'
          go_simp
          try with_reducible rfl
        try simp only [Act.put, List.setIfInBounds_toArray, List.set_cons_zero, List.set_cons_succ]
        refine rgn.Walk.ys (v := ?_) rfl rfl rfl ?_ ?_
        rotate_left 1
        · intro W' hW'
          go_simp
          try with_reducible rfl
        try simp only [Act.put, List.setIfInBounds_toArray, List.set_cons_zero, List.set_cons_succ]
        refine rgn.Walk.es ?_
        refine rgn.stepE rfl rfl (fun K hK => ?_)
        go_simp
        refine (ev.known _).mono ?_
        rintro x w9 ⟨rfl, o9⟩
        refine hK _ _ o9 ?_
        clear hK K
        have QW := hid (QW.out.trans o9)
        clear o9
        try simp only [Act.put, List.setIfInBounds_toArray, List.set_cons_zero, List.set_cons_succ]
        refine rgn.Walk.ys (v := ?_) rfl rfl rfl ?_ ?_
        rotate_left 1
        · intro W' hW'
          go_simp
          try with_reducible rfl
        try simp only [Act.put, List.setIfInBounds_toArray, List.set_cons_zero, List.set_cons_succ]
        refine rgn.Walk.es ?_
        refine rgn.stepE rfl rfl (fun K hK => ?_)
        go_simp
        refine hK _ _ ((Only.refl []) _) ?_
        clear hK K
        try simp only [Act.put, List.setIfInBounds_toArray, List.set_cons_zero, List.set_cons_succ]
        refine rgn.Walk.zs (NoPanic.normal ?_)
        go_wp2_with fail
        go_ret
        exact ⟨rfl, Q0.out.trans (HB.out.trans QW.out)⟩
end Go.Proofs.Ytngaolagifgfjaa.ip
/-
  Chapter 7 (frag): the law's comparison of two packets, and of two rows of packets, of equal contents, by a walk of each text. Conditions: none but those typed.
-/
namespace Go.Proofs.Ytngaolagifgfjaa.ip
set_option linter.unusedVariables false
set_option linter.unusedSimpArgs false
open Go.ChangeShapes Go.WideShapes Go.ChangeAt Go.RowKit Go.IntWalk Go.Lib
set_option maxRecDepth 100000 in
set_option maxHeartbeats 8000000 in
theorem packets0 (w : World) (sv pid : Int) (wh mo : Bool) (off lf pr fr to : Int) (oA : Option Addr) (oc : Nat) (dA : Option Addr) (dc : Nat) (oB : Option Addr) (ob : Nat) (dB : Option Addr) (db : Nat) (o d : List Int)
    (h1 : Rd .u8 w oA o.length o) (h2 : Rd .u8 w oB o.length o) (h3 : Rd .u8 w dA d.length d) (h4 : Rd .u8 w dB d.length d) (ho : o.length ≤ 100000) (hd : d.length ≤ 100000) :
    Calls Try.prog 26 #[.agg #[.int .i64 sv, .int .i64 pid, .bool wh, .bool mo, .int .i64 off, .int .i64 lf, .int .i64 pr, .int .u32 fr, .int .u32 to, .slice oA o.length oc, .slice dA d.length dc], .agg #[.int .i64 sv, .int .i64 pid, .bool wh, .bool mo, .int .i64 off, .int .i64 lf, .int .i64 pr, .int .u32 fr, .int .u32 to, .slice oB o.length ob, .slice dB d.length db]] w fun x w' => x = .returned (.bool true) ∧ Only [] w w' := by
  obtain ⟨n, hn⟩ : ∃ n, o.length = n := ⟨_, rfl⟩
  obtain ⟨m, hm⟩ : ∃ m, d.length = m := ⟨_, rfl⟩
  rw [hn] at h1 h2 ho ⊢; rw [hm] at h3 h4 hd ⊢
  clear hn hm
  obtain ⟨W1, hW1⟩ : ∃ W1, (w.alloc (.cells #[.int .i64 sv, .int .i64 pid, .bool wh, .bool mo, .int .i64 off, .int .i64 lf, .int .i64 pr, .int .u32 fr, .int .u32 to, .slice oA n oc, .slice dA m dc] 26)).alloc (.cells #[.int .i64 sv, .int .i64 pid, .bool wh, .bool mo, .int .i64 off, .int .i64 lf, .int .i64 pr, .int .u32 fr, .int .u32 to, .slice oB n ob, .slice dB m db] 26) = W1 := ⟨_, rfl⟩
  have QA : Hid (Only [] w W1) := hid (by rw [← hW1]; exact ((Only.refl [] w).alloc _).alloc _)
  have OA : Hid (Ob W1 w.heap.size 26 #[.int .i64 sv, .int .i64 pid, .bool wh, .bool mo, .int .i64 off, .int .i64 lf, .int .i64 pr, .int .u32 fr, .int .u32 to, .slice oA n oc, .slice dA m dc]) := hid (by rw [← hW1]; exact (Ob.new _ _ _).alloc _)
  have OB : Hid (Ob W1 (w.heap.size + 1) 26 #[.int .i64 sv, .int .i64 pid, .bool wh, .bool mo, .int .i64 off, .int .i64 lf, .int .i64 pr, .int .u32 fr, .int .u32 to, .slice oB n ob, .slice dB m db]) := hid (by rw [← hW1]; simpa using Ob.new (w.alloc (.cells #[.int .i64 sv, .int .i64 pid, .bool wh, .bool mo, .int .i64 off, .int .i64 lf, .int .i64 pr, .int .u32 fr, .int .u32 to, .slice oA n oc, .slice dA m dc] 26)) 26 #[.int .i64 sv, .int .i64 pid, .bool wh, .bool mo, .int .i64 off, .int .i64 lf, .int .i64 pr, .int .u32 fr, .int .u32 to, .slice oB n ob, .slice dB m db])
  have H1 := hid (h1.only_nil QA.out); have H2 := hid (h2.only_nil QA.out); have H3 := hid (h3.only_nil QA.out); have H4 := hid (h4.only_nil QA.out)
  clear h1 h2 h3 h4
  have a0 := OA.out.cell 0; have a1 := OA.out.cell 1; have a2 := OA.out.cell 2; have a3 := OA.out.cell 3; have a4 := OA.out.cell 4; have a5 := OA.out.cell 5; have a6 := OA.out.cell 6; have a7 := OA.out.cell 7; have a8 := OA.out.cell 8; have a9 := OA.out.cell 9
  have b0 := OB.out.cell 0; have b1 := OB.out.cell 1; have b2 := OB.out.cell 2; have b3 := OB.out.cell 3; have b4 := OB.out.cell 4; have b5 := OB.out.cell 5; have b6 := OB.out.cell 6; have b7 := OB.out.cell 7; have b8 := OB.out.cell 8; have b9 := OB.out.cell 9
  go_enter Try.func26, Try.ntmps26
  go_wp2_with fail
  clear hW1 a0 a1 a2 a3 a4 a5 a6 a7 a8 a9 b0 b1 b2 b3 b4 b5 b6 b7 b8 b9
  refine (hlp.same _ oA oB n n oc ob o o H1.out H2.out (by omega) (by omega)).mono ?_
  rintro x w2 ⟨rfl, q1, hw2⟩
  rw [show decide (o = o) = true from decide_eq_true rfl]
  have Q2 : Hid (Only [] W1 w2) := hid (by rw [hw2]; exact (Only.refl [] _).drewN q1)
  clear hw2
  have a10 := (OA.out.only Q2.out (by simp)).cell 10; have b10 := (OB.out.only Q2.out (by simp)).cell 10
  go_wp2_with fail
  clear a10 b10
  refine (hlp.same _ dA dB m m dc db d d (H3.out.only_nil Q2.out) (H4.out.only_nil Q2.out) (by omega) (by omega)).mono ?_
  rintro x w3 ⟨rfl, q2, hw3⟩
  rw [show decide (d = d) = true from decide_eq_true rfl]
  have Q3 : Hid (Only [] w2 w3) := hid (by rw [hw3]; exact (Only.refl [] _).drewN q2)
  clear hw3
  go_wp2_with fail
  go_ret
  exact ⟨rfl, (QA.out.trans Q2.out).trans Q3.out⟩
end Go.Proofs.Ytngaolagifgfjaa.ip
/-
  Chapter 7 (frag): the law's comparison of two packets, and of two rows of packets, of equal contents, by a walk of each text. Conditions: none but those typed.
-/
namespace Go.Proofs.Ytngaolagifgfjaa.ip
set_option linter.unusedVariables false
set_option linter.unusedSimpArgs false
open Go.ChangeShapes Go.WideShapes Go.ChangeAt Go.RowKit Go.IntWalk Go.Lib
/-- Rows of packets that are read. -/
def RdPs (w : World) (L : List Pk) : Prop := ∀ p ∈ L, Rd .u8 w p.oA p.o.length p.o ∧ Rd .u8 w p.dA p.d.length p.d ∧ p.o.length ≤ 100000 ∧ p.d.length ≤ 100000
theorem RdPs.only_nil {w w' : World} {L : List Pk} (h : RdPs w L) (o : Only [] w w') : RdPs w' L := fun p hp => ⟨(h p hp).1.only_nil o, (h p hp).2.1.only_nil o, (h p hp).2.2⟩
theorem key_at {L L' : List Pk} (h : L.map Pk.key = L'.map Pk.key) (k : Nat) (hk : k < L.length) : (L.getD k pk0).key = (L'.getD k pk0).key := by
  have hl : L.length = L'.length := by simpa using congrArg List.length h
  have h2 : (L.map Pk.key)[k]? = (L'.map Pk.key)[k]? := by rw [h]
  rw [List.getElem?_map, List.getElem?_map, List.getElem?_eq_getElem hk, List.getElem?_eq_getElem (show k < L'.length by omega)] at h2
  rw [List.getD_eq_getElem?_getD, List.getD_eq_getElem?_getD, List.getElem?_eq_getElem hk, List.getElem?_eq_getElem (show k < L'.length by omega)]
  simpa using h2
set_option maxRecDepth 100000 in
set_option maxHeartbeats 8000000 in
theorem lists0 (w : World) (A B : Option Addr) (L L' : List Pk) (cA cB : Nat) (hL : RowP w A L) (hL' : RowP w B L') (hA : ∀ b off, A = some ⟨b, off, none⟩ → off = 0) (hB : ∀ b off, B = some ⟨b, off, none⟩ → off = 0) (hkey : L.map Pk.key = L'.map Pk.key) (hp : RdPs w L) (hp' : RdPs w L') (hn : L.length ≤ 9223372036854775807) :
    Calls Try.prog 15 #[.slice A L.length cA, .slice B L'.length cB] w fun x w' => x = .returned (.bool true) ∧ Only [] w w' := by
  have hl : L'.length = L.length := by simpa using (congrArg List.length hkey).symm
  obtain ⟨N, hN⟩ : ∃ N, L.length = N := ⟨_, rfl⟩
  rw [hl, hN]
  have HN := hid hN; have HL' : Hid (L'.length = N) := hid (hl.trans hN)
  have HRa := hid hL; have HRb := hid hL'; have HA := hid hA; have HB := hid hB; have HK := hid hkey; have HP := hid hp; have HP' := hid hp'
  rw [hN] at hn
  clear hL hL' hA hB hkey hp hp' hl hN
  go_enter Try.func15, Try.ntmps15
  go_wp2_with fail
  go_loopw [5] (fun i wr => ∃ (k : Nat), i = .int .i64 k ∧ k ≤ N ∧ Hid (Only [] w wr)) (fun i _ => N - (RowKit.intOf i).toNat)
  case atStart => exact ⟨0, rfl, by omega, hid (Only.refl _ _)⟩
  case round =>
    obtain ⟨k, rfl, hk, HQ⟩ := hrel
    by_cases hlt : k < N
    · have hkL : k < L.length := by rw [HN.out]; exact hlt
      have hkL' : k < L'.length := by rw [HL'.out]; exact hlt
      have hkey := key_at HK.out k hkL
      have hpk := HP.out.only_nil HQ.out _ (pk_mem L k hkL)
      have hpk' := HP'.out.only_nil HQ.out _ (pk_mem L' k hkL')
      obtain ⟨b, bo, rfl, hb, hcell⟩ := RowP.at (w := wr) (A := A) (L := L) (RdS.only_nil HRa.out HQ.out) k hkL
      obtain ⟨b', bo', rfl, hb', hcell'⟩ := RowP.at (w := wr) (A := B) (L := L') (RdS.only_nil HRb.out HQ.out) k hkL'
      obtain rfl : bo = 0 := HA.out b bo rfl
      obtain rfl : bo' = 0 := HB.out b' bo' rfl
      simp only [Nat.zero_add] at hcell hcell'
      generalize L.getD k pk0 = p at *
      generalize L'.getD k pk0 = q at *
      obtain ⟨sv, pid, wh, mo, off, lf, pr, fr, to, oA, oc, o, dA, dc, d⟩ := p
      obtain ⟨sv', pid', wh', mo', off', lf', pr', fr', to', oB, ob, o', dB, db, d'⟩ := q
      simp only [Pk.key, Pk.mk.injEq, true_and, and_true] at hkey
      obtain ⟨rfl, rfl, rfl, rfl, rfl, rfl, rfl, rfl, rfl, rfl, rfl⟩ := hkey
      have d0 : wr.cell? ⟨b, k * 11, none⟩ = some (.int .i64 sv) := by have h9 := hcell 0 _ rfl; rwa [Nat.add_zero] at h9
      have d1 : wr.cell? ⟨b, k * 11 + 1, none⟩ = some (.int .i64 pid) := hcell 1 _ rfl
      have d2 : wr.cell? ⟨b, k * 11 + 2, none⟩ = some (.bool wh) := hcell 2 _ rfl
      have d3 : wr.cell? ⟨b, k * 11 + 3, none⟩ = some (.bool mo) := hcell 3 _ rfl
      have d4 : wr.cell? ⟨b, k * 11 + 4, none⟩ = some (.int .i64 off) := hcell 4 _ rfl
      have d5 : wr.cell? ⟨b, k * 11 + 5, none⟩ = some (.int .i64 lf) := hcell 5 _ rfl
      have d6 : wr.cell? ⟨b, k * 11 + 6, none⟩ = some (.int .i64 pr) := hcell 6 _ rfl
      have d7 : wr.cell? ⟨b, k * 11 + 7, none⟩ = some (.int .u32 fr) := hcell 7 _ rfl
      have d8 : wr.cell? ⟨b, k * 11 + 8, none⟩ = some (.int .u32 to) := hcell 8 _ rfl
      have d9 : wr.cell? ⟨b, k * 11 + 9, none⟩ = some (.slice oA o.length oc) := hcell 9 _ rfl
      have d10 : wr.cell? ⟨b, k * 11 + 10, none⟩ = some (.slice dA d.length dc) := hcell 10 _ rfl
      have e0 : wr.cell? ⟨b', k * 11, none⟩ = some (.int .i64 sv) := by have h9 := hcell' 0 _ rfl; rwa [Nat.add_zero] at h9
      have e1 : wr.cell? ⟨b', k * 11 + 1, none⟩ = some (.int .i64 pid) := hcell' 1 _ rfl
      have e2 : wr.cell? ⟨b', k * 11 + 2, none⟩ = some (.bool wh) := hcell' 2 _ rfl
      have e3 : wr.cell? ⟨b', k * 11 + 3, none⟩ = some (.bool mo) := hcell' 3 _ rfl
      have e4 : wr.cell? ⟨b', k * 11 + 4, none⟩ = some (.int .i64 off) := hcell' 4 _ rfl
      have e5 : wr.cell? ⟨b', k * 11 + 5, none⟩ = some (.int .i64 lf) := hcell' 5 _ rfl
      have e6 : wr.cell? ⟨b', k * 11 + 6, none⟩ = some (.int .i64 pr) := hcell' 6 _ rfl
      have e7 : wr.cell? ⟨b', k * 11 + 7, none⟩ = some (.int .u32 fr) := hcell' 7 _ rfl
      have e8 : wr.cell? ⟨b', k * 11 + 8, none⟩ = some (.int .u32 to) := hcell' 8 _ rfl
      have e9 : wr.cell? ⟨b', k * 11 + 9, none⟩ = some (.slice oB o.length ob) := hcell' 9 _ rfl
      have e10 : wr.cell? ⟨b', k * 11 + 10, none⟩ = some (.slice dB d.length db) := hcell' 10 _ rfl
      have H1 := hid hpk.1; have H2 := hid hpk'.1; have H3 := hid hpk.2.1; have H4 := hid hpk'.2.1; have Ho := hid hpk.2.2.1; have Hd := hid hpk.2.2.2
      clear hpk hpk' hcell hcell' hkL hkL'
      go_wp2_with fail
      refine wp_region_noPanic ?_
      refine rgn.regionT (R := Only []) (by kernel_rfl) (Only.refl []) (fun _ _ _ => Only.trans) (fun _ _ _ _ _ h => h) (.y 0 (.y 1 (.y 2 (.y 3 (.y 4 (.y 5 (.y 6 (.y 7 (.e 8 (.y 9 .z)))))))))) (by kernel_rfl) (fun W hWd => ?_)
      have HWd := hid hWd; clear hWd
      have Q6 : Hid (Only [] wr W) := hid (Only.eq_drew (Only.refl [] _) HWd.out)
      clear HWd
      refine rgn.Walk.ys (v := ?_) rfl rfl rfl ?_ ?_
      rotate_left 1
      · intro W' hW'
        go_simp
        try with_reducible rfl
      try simp only [Act.put, List.setIfInBounds_toArray, List.set_cons_zero, List.set_cons_succ]
      refine rgn.Walk.ys (v := ?_) rfl rfl rfl ?_ ?_
      rotate_left 1
      · intro W' hW'
        go_simp
        try with_reducible rfl
      try simp only [Act.put, List.setIfInBounds_toArray, List.set_cons_zero, List.set_cons_succ]
      refine rgn.Walk.ys (v := ?_) rfl rfl rfl ?_ ?_
      rotate_left 1
      · intro W' hW'
        go_simp
        try with_reducible rfl
      try simp only [Act.put, List.setIfInBounds_toArray, List.set_cons_zero, List.set_cons_succ]
      refine rgn.Walk.ys (v := ?_) rfl rfl rfl ?_ ?_
      rotate_left 1
      · intro W' hW'
        have q0 := (Q6.out.trans hW').keep d0
        have q1 := (Q6.out.trans hW').keep d1
        have q2 := (Q6.out.trans hW').keep d2
        have q3 := (Q6.out.trans hW').keep d3
        have q4 := (Q6.out.trans hW').keep d4
        have q5 := (Q6.out.trans hW').keep d5
        have q6 := (Q6.out.trans hW').keep d6
        have q7 := (Q6.out.trans hW').keep d7
        have q8 := (Q6.out.trans hW').keep d8
        have q9 := (Q6.out.trans hW').keep d9
        have q10 := (Q6.out.trans hW').keep d10
        go_simp
        try with_reducible rfl
      try simp only [Act.put, List.setIfInBounds_toArray, List.set_cons_zero, List.set_cons_succ]
      refine rgn.Walk.ys (v := ?_) rfl rfl rfl ?_ ?_
      rotate_left 1
      · intro W' hW'
        go_simp
        try with_reducible rfl
      try simp only [Act.put, List.setIfInBounds_toArray, List.set_cons_zero, List.set_cons_succ]
      refine rgn.Walk.ys (v := ?_) rfl rfl rfl ?_ ?_
      rotate_left 1
      · intro W' hW'
        go_simp
        try with_reducible rfl
      try simp only [Act.put, List.setIfInBounds_toArray, List.set_cons_zero, List.set_cons_succ]
      refine rgn.Walk.ys (v := ?_) rfl rfl rfl ?_ ?_
      rotate_left 1
      · intro W' hW'
        go_simp
        try with_reducible rfl
      try simp only [Act.put, List.setIfInBounds_toArray, List.set_cons_zero, List.set_cons_succ]
      refine rgn.Walk.ys (v := ?_) rfl rfl rfl ?_ ?_
      rotate_left 1
      · intro W' hW'
        have q0 := (Q6.out.trans hW').keep e0
        have q1 := (Q6.out.trans hW').keep e1
        have q2 := (Q6.out.trans hW').keep e2
        have q3 := (Q6.out.trans hW').keep e3
        have q4 := (Q6.out.trans hW').keep e4
        have q5 := (Q6.out.trans hW').keep e5
        have q6 := (Q6.out.trans hW').keep e6
        have q7 := (Q6.out.trans hW').keep e7
        have q8 := (Q6.out.trans hW').keep e8
        have q9 := (Q6.out.trans hW').keep e9
        have q10 := (Q6.out.trans hW').keep e10
        go_simp
        try with_reducible rfl
      try simp only [Act.put, List.setIfInBounds_toArray, List.set_cons_zero, List.set_cons_succ]
      refine rgn.Walk.es ?_
      refine rgn.stepE rfl rfl (fun K hK => ?_)
      go_simp
      refine (packets0 _ sv pid wh mo off lf pr fr to oA oc dA dc oB ob dB db o d (H1.out.only_nil Q6.out) (H2.out.only_nil Q6.out) (H3.out.only_nil Q6.out) (H4.out.only_nil Q6.out) Ho.out Hd.out).mono ?_
      rintro x w8 ⟨rfl, o8⟩
      refine hK _ _ o8 ?_
      clear hK K
      have Q6 := hid (Q6.out.trans o8)
      clear o8
      try simp only [Act.put, List.setIfInBounds_toArray, List.set_cons_zero, List.set_cons_succ]
      refine rgn.Walk.ys (v := ?_) rfl rfl rfl ?_ ?_
      rotate_left 1
      · intro W' hW'
        go_simp
        try with_reducible rfl
      try simp only [Act.put, List.setIfInBounds_toArray, List.set_cons_zero, List.set_cons_succ]
      refine rgn.Walk.zs (NoPanic.normal ?_)
      go_wp2_with fail
      go_roundw
      case rel => exact ⟨k + 1, by first | rfl | go_num, by omega, hid (HQ.out.trans Q6.out)⟩
      case measure => simp [RowKit.intOf]; omega
    · have hkn : k = N := by omega
      go_wp2_with fail
      go_ret
      exact ⟨rfl, HQ.out⟩
end Go.Proofs.Ytngaolagifgfjaa.ip
/-
  Chapter 7 (frag): Split of the document, exactly, by a walk of its text. Conditions: none but those typed.
-/
namespace Go.Proofs.Ytngaolagifgfjaa.ip
set_option linter.unusedVariables false
set_option linter.unusedSimpArgs false
open Go.ChangeShapes Go.WideShapes Go.ChangeAt Go.RowKit Go.IntWalk Go.Lib
def SplY (m : Int) (q : Pk) (w : World) (x : Ending) (w' : World) : Prop := ∃ (v : Value) (e : Int) (M : List Pk), x = .returned (.tuple #[v, .int .i64 e]) ∧ SpR m q e (M.map Pk.key) ∧ w'.ownsRow w.heap.size 26 11 v M.length (pcs M) ∧ PDs w.heap.size w' M ∧ Only [] w w'
/-- What the document's loop knows of the pieces so far. -/
def YInv (m : Nat) (q : Pk) (M : List Pk) : Prop := ∀ u, CpR q.o u → PcP m q u (dat M).length (M.map Pk.key)
theorem YInv.start (m : Nat) (q : Pk) : YInv m q [] := fun u hu => (XInv.start m q u hu).2
theorem YInv.x {m : Nat} {q : Pk} {M : List Pk} {o2 : List Int} (h : YInv m q M) (ho : ((dat M).length = 0 ∧ o2 = q.o) ∨ (0 < (dat M).length ∧ CpR q.o o2)) : XInv m q o2 M := fun u hu => by
  refine ⟨?_, h u hu⟩
  unfold opt
  rcases ho with ⟨h1, h2⟩ | ⟨h1, h2⟩
  · rw [if_pos h1, h2]
  · rw [if_neg (by omega), h2.uniq hu]
theorem YInv.of {m : Nat} {q : Pk} {M : List Pk} (h : ∀ u, CpR q.o u → XInv m q u M) : YInv m q M := fun u hu => (h u hu u hu).2
set_option maxRecDepth 100000 in
set_option maxHeartbeats 16000000 in
theorem dsplit1 (w : World) (sv pid : Int) (wh mo : Bool) (off lf pr fr to : Int) (oA : Option Addr) (on oc : Nat) (dA : Option Addr) (dn dc : Nat) (o d : List Int) (m : Int) (ho : Rd .u8 w oA on o) (hoc : oA = none → oc = 0) (hnc : on ≤ oc) (hcm : oc ≤ maxLen) (hn : on ≤ 100000) (hd : Rd .u8 w dA dn d) (hdc : dA = none → dc = 0) (hdnc : dn ≤ dc) (hdcm : dc ≤ maxLen) (hdn : dn ≤ 100000) :
    Calls Try.prog 14 #[.agg #[.int .i64 sv, .int .i64 pid, .bool wh, .bool mo, .int .i64 off, .int .i64 lf, .int .i64 pr, .int .u32 fr, .int .u32 to, .slice oA on oc, .slice dA dn dc], .int .i64 m] w (SplY m (sq sv pid wh mo off lf pr fr to o d) w) := by
  have Hon := hid ho.len; have Hdn := hid hd.len
  obtain ⟨W0, hW0⟩ : ∃ W0, w.alloc (.cells #[.int .i64 sv, .int .i64 pid, .bool wh, .bool mo, .int .i64 off, .int .i64 lf, .int .i64 pr, .int .u32 fr, .int .u32 to, .slice oA on oc, .slice dA dn dc] 26) = W0 := ⟨_, rfl⟩
  have C0 : Hid (Ob W0 w.heap.size 26 #[.int .i64 sv, .int .i64 pid, .bool wh, .bool mo, .int .i64 off, .int .i64 lf, .int .i64 pr, .int .u32 fr, .int .u32 to, .slice oA on oc, .slice dA dn dc]) := hid (by rw [← hW0]; exact Ob.new _ _ _)
  have Q0 : Hid (Only [] w W0) := hid (by rw [← hW0]; exact (Only.refl [] w).alloc _)
  have HO := hid ho; have HD := hid hd; have HCo := hid hcm; have HCd := hid hdcm; have HZo := hid hoc; have HZd := hid hdc
  have k0 := C0.out.cell 0; have k1 := C0.out.cell 1; have k2 := C0.out.cell 2; have k3 := C0.out.cell 3; have k4 := C0.out.cell 4; have k5 := C0.out.cell 5; have k6 := C0.out.cell 6; have k7 := C0.out.cell 7; have k8 := C0.out.cell 8; have k9 := C0.out.cell 9; have k10 := C0.out.cell 10
  clear ho hd hcm hdcm hoc hdc
  go_enter Try.func14, Try.ntmps14
  by_cases m1 : m < 68
  case pos =>
    go_wp2_with fail
    go_ret2
    exact ⟨.slice none 0 0, 1, [], rfl, SpR.arg (.inl m1), World.ownsRow_nil _ _ _ _, (fun p hp => by cases hp), Q0.out⟩
  by_cases m2 : 65535 < m
  case pos =>
    go_wp2_with fail
    go_ret2
    exact ⟨.slice none 0 0, 1, [], rfl, SpR.arg (.inr m2), World.ownsRow_nil _ _ _ _, (fun p hp => by cases hp), Q0.out⟩
  have HM : Hid (¬ (m < 68 ∨ 65535 < m)) := hid (by omega)
  go_wp2_with fail
  refine (may1 W0 sv pid off lf pr wh mo fr to oA on oc dA dn dc o (HO.out.only_nil Q0.out) hnc HCo.out hn hdn).mono ?_
  rintro x w2 ⟨rfl, o2⟩
  have Q2 := hid (Q0.out.trans o2)
  have C2 := hid (C0.out.only o2 (by simp))
  have HW2 : Hid (w.heap.size < w2.heap.size) := hid C2.out.lt
  clear k0 k1 k2 k3 k4 k5 k6 k7 k8 k9 k10 o2 hW0
  have k0 := C2.out.cell 0; have k1 := C2.out.cell 1; have k2 := C2.out.cell 2; have k3 := C2.out.cell 3; have k4 := C2.out.cell 4; have k5 := C2.out.cell 5; have k6 := C2.out.cell 6; have k7 := C2.out.cell 7; have k8 := C2.out.cell 8; have k9 := C2.out.cell 9; have k10 := C2.out.cell 10
  by_cases hck : chk sv pid off lf pr o dn = 0
  case neg =>
    obtain ⟨e, he⟩ : ∃ e, chk sv pid off lf pr o dn = e := ⟨_, rfl⟩
    rw [he] at hck
    rw [he]
    have hckb : (e != 0) = true := by simpa using hck
    have HE := hid he
    clear k0 k1 k2 k3 k4 k5 k6 k7 k8 k9 k10 he
    go_wp2_with fail
    go_ret2
    exact ⟨.slice none 0 0, e, [], rfl, SpR.chk e HM.out (by show chk sv pid off lf pr o d.length = e; rw [Hdn.out]; exact HE.out) hck, World.ownsRow_nil _ _ _ _, (fun p hp => by cases hp), Q2.out⟩
  have HCk := hid hck
  rw [hck]
  obtain ⟨hN, h40, hok, hll⟩ := chk0 hck
  have HOf : Hid (Ofs o true) := hid (by have h9 := ofs_okO o; rwa [hok] at h9)
  have hon40 : on ≤ 40 := by rw [← Hon.out]; exact h40
  have hlb := hl_bd on
  have HLL : Hid ((hl on : Int) + off + dn ≤ 65535) := hid (by have h9 := hll; rwa [Hon.out] at h9)
  have HNu := hid hN
  clear hck hN h40 hok hll
  have hwr : IntKind.i64.wrap (((hl on : Nat) : Int) + (dn : Int)) = ((hl on : Nat) : Int) + (dn : Int) := i64_in _ (by omega)
  go_wp2_with fail
  refine wp_region_noPanic ?_
  refine rgn.regionT (R := Only []) (by kernel_rfl) (Only.refl []) (fun _ _ _ => Only.trans) (fun _ _ _ _ _ h => h) (.y 0 (.y 2 (.y 3 (.y 4 (.y 6 (.e 1 (.y 5 (.y 7 .z)))))))) (by kernel_rfl) (fun W hWd => ?_)
  have HWd := hid hWd; clear hWd
  have HQ6 : Hid (Only [] w2 W) := hid (Only.eq_drew (Only.refl [] _) HWd.out)
  have C6 := hid (C2.out.only HQ6.out (by simp)); have Q6 := hid (Q2.out.trans HQ6.out)
  clear HWd HQ6
  refine rgn.Walk.ys (v := ?_) rfl rfl rfl ?_ ?_
  rotate_left 1
  · intro W' hW'
    have q0 := (C6.out.only hW' (by simp)).cell 0
    have q1 := (C6.out.only hW' (by simp)).cell 1
    have q2 := (C6.out.only hW' (by simp)).cell 2
    have q3 := (C6.out.only hW' (by simp)).cell 3
    have q4 := (C6.out.only hW' (by simp)).cell 4
    have q5 := (C6.out.only hW' (by simp)).cell 5
    have q6 := (C6.out.only hW' (by simp)).cell 6
    have q7 := (C6.out.only hW' (by simp)).cell 7
    have q8 := (C6.out.only hW' (by simp)).cell 8
    have q9 := (C6.out.only hW' (by simp)).cell 9
    have q10 := (C6.out.only hW' (by simp)).cell 10
    go_simp
    try with_reducible rfl
  try simp only [Act.put, List.setIfInBounds_toArray, List.set_cons_zero, List.set_cons_succ]
  refine rgn.Walk.ys (v := ?_) rfl rfl rfl ?_ ?_
  rotate_left 1
  · intro W' hW'
    go_simp
    try with_reducible rfl
  try simp only [Act.put, List.setIfInBounds_toArray, List.set_cons_zero, List.set_cons_succ]
  refine rgn.Walk.ys (v := ?_) rfl rfl rfl ?_ ?_
  rotate_left 1
  · intro W' hW'
    have q0 := (C6.out.only hW' (by simp)).cell 10
    go_simp
    try with_reducible rfl
  try simp only [Act.put, List.setIfInBounds_toArray, List.set_cons_zero, List.set_cons_succ]
  refine rgn.Walk.ys (v := ?_) rfl rfl rfl ?_ ?_
  rotate_left 1
  · intro W' hW'
    go_simp
    try with_reducible rfl
  try simp only [Act.put, List.setIfInBounds_toArray, List.set_cons_zero, List.set_cons_succ]
  refine rgn.Walk.ys (v := ?_) rfl rfl rfl ?_ ?_
  rotate_left 1
  · intro W' hW'
    go_simp
    try with_reducible rfl
  try simp only [Act.put, List.setIfInBounds_toArray, List.set_cons_zero, List.set_cons_succ]
  refine rgn.Walk.es ?_
  refine rgn.stepE rfl rfl (fun K hK => ?_)
  go_simp
  refine (head2 _ sv pid off lf pr wh mo fr to oA on oc dA dn dc (by omega)).mono ?_
  rintro x w4 ⟨rfl, o4⟩
  refine hK _ _ o4 ?_
  clear hK K
  have C6 := hid (C6.out.only o4 (by simp)); have Q6 := hid (Q6.out.trans o4)
  clear o4
  try simp only [Act.put, List.setIfInBounds_toArray, List.set_cons_zero, List.set_cons_succ]
  refine rgn.Walk.ys (v := ?_) rfl rfl rfl ?_ ?_
  rotate_left 1
  · intro W' hW'
    go_simp
    try with_reducible rfl
  try simp only [Act.put, List.setIfInBounds_toArray, List.set_cons_zero, List.set_cons_succ]
  refine rgn.Walk.ys (v := ?_) rfl rfl rfl ?_ ?_
  rotate_left 1
  · intro W' hW'
    go_simp
    try with_reducible rfl
  try simp only [Act.put, List.setIfInBounds_toArray, List.set_cons_zero, List.set_cons_succ]
  refine rgn.Walk.zs (NoPanic.normal ?_)
  clear k0 k1 k2 k3 k4 k5 k6 k7 k8 k9 k10 hwr C0 C2 Q0 Q2
  have hs4 : w.heap.size < w4.heap.size := C6.out.lt
  have k0 := C6.out.cell 0; have k1 := C6.out.cell 1; have k2 := C6.out.cell 2; have k3 := C6.out.cell 3; have k4 := C6.out.cell 4; have k5 := C6.out.cell 5; have k6 := C6.out.cell 6; have k7 := C6.out.cell 7; have k8 := C6.out.cell 8; have k9 := C6.out.cell 9; have k10 := C6.out.cell 10
  by_cases hfit : ((hl on : Nat) : Int) + (dn : Int) ≤ m
  case pos =>
    go_wp2_with fail
    go_ret2
    obtain ⟨q, hq⟩ : ∃ q : Pk, q = ⟨sv, pid, wh, mo, off, lf, pr, fr, to, oA, oc, o, dA, dc, d⟩ := ⟨_, rfl⟩
    have hqo : q.o.length = on := by rw [hq]; exact Hon.out
    have hqd : q.d.length = dn := by rw [hq]; exact Hdn.out
    have hcs : q.cs.toArray = #[.int .i64 sv, .int .i64 pid, .bool wh, .bool mo, .int .i64 off, .int .i64 lf, .int .i64 pr, .int .u32 fr, .int .u32 to, .slice oA on oc, .slice dA dn dc] := by
      unfold Pk.cs; rw [hqo, hqd, hq]
    have qa : Only [] w4 (w4.alloc (.cells q.cs.toArray 26)) := (Only.refl [] w4).alloc _
    have hbase : w.heap.size ≤ w4.heap.size := by omega
    rw [← hcs]
    refine ⟨_, 0, [q], rfl, ?_, ?_, ?_, Q6.out.trans qa⟩
    · rw [hq]
      exact SpR.fit HM.out (by show chk sv pid off lf pr o d.length = 0; rw [Hdn.out]; exact HCk.out) (by show hl o.length + d.length ≤ m.toNat; rw [Hon.out, Hdn.out]; omega)
    · have h9 := World.ownsRow_lit (base := w.heap.size) (e := 26) (size := 11) w4 q.cs.toArray 1 hbase (by unfold maxLen; omega) rfl
      simpa [pcs] using h9
    · intro p hp
      rw [show p = q from by simpa using hp]
      have kk := KK.of_nil (Q6.out.trans qa) (Nat.le_refl _)
      have b1 := (DK.of_arg HO.out (Nat.le_refl _) hnc HCo.out HZo.out).keep kk
      have b2 := (DK.of_arg HD.out (Nat.le_refl _) hdnc HCd.out HZd.out).keep kk
      refine ⟨?_, ?_⟩
      · rw [hqo, show q.oA = oA from by rw [hq], show q.oc = oc from by rw [hq], show q.o = o from by rw [hq]]; exact b1
      · rw [hqd, show q.dA = dA from by rw [hq], show q.dc = dc from by rw [hq], show q.d = d from by rw [hq]]; exact b2
  have HNF : Hid (¬ hl o.length + d.length ≤ m.toNat) := hid (by rw [Hon.out, Hdn.out]; omega)
  cases wh with
  | true =>
    go_wp2_with fail
    go_ret2
    exact ⟨.slice none 0 0, 5, [], rfl, SpR.wh HM.out (by show chk sv pid off lf pr o d.length = 0; rw [Hdn.out]; exact HCk.out) HNF.out rfl, World.ownsRow_nil _ _ _ _, (fun p hp => by cases hp), Q6.out⟩
  | false =>
    obtain ⟨mm, hmm⟩ : ∃ mm : Nat, m = (mm : Int) := ⟨m.toNat, by omega⟩
    subst hmm
    have HM2 := hid (show ((mm : Int)).toNat = mm by omega)
    go_wp2_with fail
    clear k0 k1 k2 k3 k4 k5 k6 k7 k8 k9 k10
    have HB4 : Hid (w.heap.size + 1 ≤ w4.heap.size) := hid hs4
    have HB0 : Hid (0 < dn) := hid (by have : hl on ≤ 60 := by unfold hl; omega
                                       omega)
    go_loopg [7, 8, 9, 10, 11] (d.length + 1) (fun gk vo va v9 v10 v11 wr => ∃ (v : Value) (M : List Pk) (a : Nat), v = vo ∧ va = .int .i64 a ∧ Hid (dn - a < gk) ∧ Hid (a ≤ dn) ∧ Hid (Ob wr w.heap.size 26 #[.int .i64 sv, .int .i64 pid, .bool false, .bool mo, .int .i64 off, .int .i64 lf, .int .i64 pr, .int .u32 fr, .int .u32 to, .slice oA on oc, .slice dA dn dc]) ∧ Hid (wr.ownsRow (w.heap.size + 1) 26 11 v M.length (pcs M)) ∧ Hid (PDs w.heap.size wr M) ∧ Hid (a % 8 = 0 ∨ a = dn) ∧ Hid (8 * M.length ≤ a + 8 ∧ (a < dn → 8 * M.length ≤ a)) ∧ Hid ((a < dn ∧ (dat M).length = a ∧ dat M ++ d.drop a = d ∧ YInv mm (sq sv pid false mo off lf pr fr to o d) M) ∨ (a = dn ∧ ∃ u, CpR o u ∧ PcR mm (sq sv pid false mo off lf pr fr to o d) u 0 (M.map Pk.key))) ∧ Hid (Only [] w wr) ∧ Hid (w.heap.size + 1 ≤ wr.heap.size))
    case atStart => exact ⟨.slice none 0 0, [], 0, rfl, rfl, hid (by have := Hdn.out; omega), hid (by omega), C6, hid (World.ownsRow_nil _ _ _ _), hid (fun p hp => by cases hp), hid (.inl rfl), hid ⟨by simp, fun _ => by simp⟩, hid (.inl ⟨HB0.out, rfl, by simp [dat], YInv.start _ _⟩), Q6, HB4⟩
    case round =>
      clear C6 Q6 HB4 hs4
      obtain ⟨v, M, a, rfl, rfl, HGk, HA, HR, HV, HPD, HA8, HMl, HDis, QR, HB⟩ := hrel
      have ha := HA.out
      have ks0 := HR.out.cell 0; have ks1 := HR.out.cell 1; have ks2 := HR.out.cell 2; have ks3 := HR.out.cell 3; have ks4 := HR.out.cell 4; have ks5 := HR.out.cell 5; have ks6 := HR.out.cell 6; have ks7 := HR.out.cell 7; have ks8 := HR.out.cell 8; have ks9 := HR.out.cell 9; have ks10 := HR.out.cell 10
      by_cases hlt0 : a < dn
      case neg =>
        have hlt : ¬ (a : Int) < (dn : Int) := by omega
        go_wp2_with fail
        go_ret2
        rcases HDis.out with ⟨h, _⟩ | ⟨_, u, hu, hp⟩
        · exact absurd h hlt0
        · exact ⟨v, 0, M, rfl, SpR.pcs u _ HM.out (by show chk sv pid off lf pr o d.length = 0; rw [Hdn.out]; exact HCk.out) HNF.out rfl hu (by rw [HM2.out]; exact hp), own_mono HV.out (by omega), HPD.out, QR.out⟩
      have hlt : (a : Int) < (dn : Int) := by omega
      obtain ⟨f, rfl⟩ : ∃ f, gk = f + 1 := ⟨gk - 1, by have := HGk.out; omega⟩
      have HDl : Hid ((dat M).length = a ∧ dat M ++ d.drop a = d ∧ YInv mm (sq sv pid false mo off lf pr fr to o d) M) := hid (by
        rcases HDis.out with ⟨_, h⟩ | ⟨h, _⟩
        · exact h
        · exact absurd h (by omega))
      have hoff := HNu.out
      unfold Nums at hoff
      have hob0 : 0 ≤ off := by omega
      have hob1 : off ≤ 65528 := by omega
      clear hoff
      obtain ⟨W13, hW13⟩ : ∃ W13, wr.alloc (.cells #[.int .i64 sv, .int .i64 pid, .bool false, .bool mo, .int .i64 off, .int .i64 lf, .int .i64 pr, .int .u32 fr, .int .u32 to, .slice oA on oc, .slice dA dn dc] 26) = W13 := ⟨_, rfl⟩
      have O13 : Hid (Only [] wr W13) := hid (by rw [← hW13]; exact (Only.refl [] wr).alloc _)
      have N13 : Hid (Ob W13 wr.heap.size 26 #[.int .i64 sv, .int .i64 pid, .bool false, .bool mo, .int .i64 off, .int .i64 lf, .int .i64 pr, .int .u32 fr, .int .u32 to, .slice oA on oc, .slice dA dn dc]) := hid (by rw [← hW13]; exact Ob.new _ _ _)
      have R13 := hid (HR.out.only O13.out (by simp))
      by_cases ha0 : a = 0
      case pos =>
        subst ha0
        have Nw := N13; have Cw := R13; have Qw := hid (QR.out.trans O13.out); have HVw := hid (own_only_nil HV.out O13.out); have HPw := hid (HPD.out.keep (KK.of_nil O13.out QR.out.size))
        have HUw : Hid (DK w.heap.size W13 oA on oc o) := hid ((DK.of_arg HO.out (Nat.le_refl _) hnc HCo.out HZo.out).keep (KK.of_nil Qw.out (Nat.le_refl _)))
        have HXv := hid (HDl.out.2.2.x (o2 := o) (.inl ⟨HDl.out.1, rfl⟩)); have HOL := Hon
        clear N13 R13 O13
        have Gw : Hid (w.heap.size < wr.heap.size) := hid HR.out.lt
        have n0 := Nw.out.cell 0; have n1 := Nw.out.cell 1; have n2 := Nw.out.cell 2; have n3 := Nw.out.cell 3; have n4 := Nw.out.cell 4; have n5 := Nw.out.cell 5; have n6 := Nw.out.cell 6; have n7 := Nw.out.cell 7; have n8 := Nw.out.cell 8; have n9 := Nw.out.cell 9; have n10 := Nw.out.cell 10
        have z0 := Cw.out.cell 0; have z1 := Cw.out.cell 1; have z2 := Cw.out.cell 2; have z3 := Cw.out.cell 3; have z4 := Cw.out.cell 4; have z5 := Cw.out.cell 5; have z6 := Cw.out.cell 6; have z7 := Cw.out.cell 7; have z8 := Cw.out.cell 8; have z9 := Cw.out.cell 9; have z10 := Cw.out.cell 10
        obtain ⟨R, hR⟩ : ∃ R : Nat, (mm : Int) - ((hl on : Nat) : Int) = (R : Int) := ⟨mm - hl on, by have := hl_bd on; omega⟩
        have hR8 : 8 ≤ R := by have : hl on ≤ 60 := by unfold hl; omega
                               omega
        have hRm : R + hl on = mm := by omega
        go_wp2_with fail
        refine (head2 _ sv pid off lf pr false mo fr to oA on oc dA dn dc (by omega)).mono ?_
        rintro x w6 ⟨rfl, o6⟩
        have Nx := hid (Nw.out.only o6 (by simp)); have Cx := hid (Cw.out.only o6 (by simp)); have Qx := hid (Qw.out.trans o6); have HVx := hid (own_only_nil HVw.out o6); have HPx := hid (HPw.out.keep (KK.of_nil o6 Qw.out.size)); have HUx := hid (HUw.out.keep (KK.of_nil o6 Qw.out.size))
        clear n0 n1 n2 n3 n4 n5 n6 n7 n8 n9 n10 z0 z1 z2 z3 z4 z5 z6 z7 z8 z9 z10
        clear o6 Nw Cw Qw HVw HPw HUw
        have n0 := Nx.out.cell 0; have n1 := Nx.out.cell 1; have n2 := Nx.out.cell 2; have n3 := Nx.out.cell 3; have n4 := Nx.out.cell 4; have n5 := Nx.out.cell 5; have n6 := Nx.out.cell 6; have n7 := Nx.out.cell 7; have n8 := Nx.out.cell 8; have n9 := Nx.out.cell 9; have n10 := Nx.out.cell 10
        have z0 := Cx.out.cell 0; have z1 := Cx.out.cell 1; have z2 := Cx.out.cell 2; have z3 := Cx.out.cell 3; have z4 := Cx.out.cell 4; have z5 := Cx.out.cell 5; have z6 := Cx.out.cell 6; have z7 := Cx.out.cell 7; have z8 := Cx.out.cell 8; have z9 := Cx.out.cell 9; have z10 := Cx.out.cell 10
        go_wp2_with fail
        refine (head2 _ sv pid off lf pr false mo fr to oA on oc dA dn dc (by omega)).mono ?_
        rintro x w7 ⟨rfl, o7⟩
        have Ny := hid (Nx.out.only o7 (by simp)); have Cy := hid (Cx.out.only o7 (by simp)); have Qy := hid (Qx.out.trans o7); have HVy := hid (own_only_nil HVx.out o7); have HPy := hid (HPx.out.keep (KK.of_nil o7 Qx.out.size)); have HUy := hid (HUx.out.keep (KK.of_nil o7 Qx.out.size))
        clear n0 n1 n2 n3 n4 n5 n6 n7 n8 n9 n10 z0 z1 z2 z3 z4 z5 z6 z7 z8 z9 z10
        clear o7 Nx Cx Qx HVx HPx HUx
        have n0 := Ny.out.cell 0; have n1 := Ny.out.cell 1; have n2 := Ny.out.cell 2; have n3 := Ny.out.cell 3; have n4 := Ny.out.cell 4; have n5 := Ny.out.cell 5; have n6 := Ny.out.cell 6; have n7 := Ny.out.cell 7; have n8 := Ny.out.cell 8; have n9 := Ny.out.cell 9; have n10 := Ny.out.cell 10
        have z0 := Cy.out.cell 0; have z1 := Cy.out.cell 1; have z2 := Cy.out.cell 2; have z3 := Cy.out.cell 3; have z4 := Cy.out.cell 4; have z5 := Cy.out.cell 5; have z6 := Cy.out.cell 6; have z7 := Cy.out.cell 7; have z8 := Cy.out.cell 8; have z9 := Cy.out.cell 9; have z10 := Cy.out.cell 10
        have f3 := Ny.out.frozen 3; have f4 := Ny.out.frozen 4; have f10 := Ny.out.frozen 10
        obtain ⟨db, dof, edA, _⟩ := HD.out.cells (by omega)
        subst edA
        by_cases hf : dn ≤ R
        case pos =>
          have hfz : (dn : Int) ≤ (R : Int) := by omega
          exact absurd HNF.out (by rw [Hon.out, Hdn.out]; omega)
        have hfz : ¬ (dn : Int) ≤ (R : Int) := by omega
        obtain ⟨Nn, hNn⟩ : ∃ Nn : Nat, R / 8 * 8 = Nn := ⟨_, rfl⟩
        have hNz : (R : Int) / 8 * 8 = (Nn : Int) := by omega
        have hN8 : 8 ≤ Nn := by omega
        have hNR : Nn ≤ R := by omega
        have HN8 : Hid (Nn % 8 = 0) := hid (by omega)
        have hlast : (Nn : Int) < (dn : Int) := by omega
        have hlast2 : Nn < dn := by omega
        have HNq : Hid (Nn = (mm - hl on) / 8 * 8) := hid (by omega)
        clear hNn
        cases mo with
        | true =>
          obtain ⟨Wa, hWa⟩ : ∃ Wa, w7.setCell ⟨wr.heap.size, 4, none⟩ (.int .i64 off) = Wa := ⟨_, rfl⟩
          obtain ⟨Wb, hWb⟩ : ∃ Wb, Wa.setCell ⟨wr.heap.size, 3, none⟩ (.bool true) = Wb := ⟨_, rfl⟩
          obtain ⟨Wc, hWc⟩ : ∃ Wc, Wb.setCell ⟨wr.heap.size, 10, none⟩ (.slice (some ⟨db, dof, none⟩) Nn dc) = Wc := ⟨_, rfl⟩
          have Na : Hid (Ob Wa wr.heap.size 26 #[.int .i64 sv, .int .i64 pid, .bool false, .bool true, .int .i64 off, .int .i64 lf, .int .i64 pr, .int .u32 fr, .int .u32 to, .slice oA on oc, .slice (some ⟨db, dof, none⟩) dn dc]) := hid (by rw [← hWa]; exact Ny.out.set 4 _)
          have Nb : Hid (Ob Wb wr.heap.size 26 #[.int .i64 sv, .int .i64 pid, .bool false, .bool true, .int .i64 off, .int .i64 lf, .int .i64 pr, .int .u32 fr, .int .u32 to, .slice oA on oc, .slice (some ⟨db, dof, none⟩) dn dc]) := hid (by rw [← hWb]; exact Na.out.set 3 _)
          have Nc : Hid (Ob Wc wr.heap.size 26 #[.int .i64 sv, .int .i64 pid, .bool false, .bool true, .int .i64 off, .int .i64 lf, .int .i64 pr, .int .u32 fr, .int .u32 to, .slice oA on oc, .slice (some ⟨db, dof, none⟩) Nn dc]) := hid (by rw [← hWc]; exact Nb.out.set 10 _)
          have Ca : Hid (Ob Wa w.heap.size 26 #[.int .i64 sv, .int .i64 pid, .bool false, .bool true, .int .i64 off, .int .i64 lf, .int .i64 pr, .int .u32 fr, .int .u32 to, .slice oA on oc, .slice (some ⟨db, dof, none⟩) dn dc]) := hid (by rw [← hWa]; exact Cy.out.far (p := ⟨wr.heap.size, 4, none⟩) (by have := Gw.out; show w.heap.size ≠ wr.heap.size; omega) _)
          have Cb : Hid (Ob Wb w.heap.size 26 #[.int .i64 sv, .int .i64 pid, .bool false, .bool true, .int .i64 off, .int .i64 lf, .int .i64 pr, .int .u32 fr, .int .u32 to, .slice oA on oc, .slice (some ⟨db, dof, none⟩) dn dc]) := hid (by rw [← hWb]; exact Ca.out.far (p := ⟨wr.heap.size, 3, none⟩) (by have := Gw.out; show w.heap.size ≠ wr.heap.size; omega) _)
          have Cc : Hid (Ob Wc w.heap.size 26 #[.int .i64 sv, .int .i64 pid, .bool false, .bool true, .int .i64 off, .int .i64 lf, .int .i64 pr, .int .u32 fr, .int .u32 to, .slice oA on oc, .slice (some ⟨db, dof, none⟩) dn dc]) := hid (by rw [← hWc]; exact Cb.out.far (p := ⟨wr.heap.size, 10, none⟩) (by have := Gw.out; show w.heap.size ≠ wr.heap.size; omega) _)
          have Oc : Hid (Only [wr.heap.size] w7 Wc) := hid (by rw [← hWc, ← hWb, ← hWa]; exact (((Only.refl [wr.heap.size] w7).setCell (p := ⟨wr.heap.size, 4, none⟩) (Or.inl (by simp)) _).setCell (p := ⟨wr.heap.size, 3, none⟩) (Or.inl (by simp)) _).setCell (p := ⟨wr.heap.size, 10, none⟩) (Or.inl (by simp)) _)
          have fa3 := Na.out.frozen 3; have na3 := Na.out.cell 3; have ca3 := Ca.out.cell 3; have ca10 := Ca.out.cell 10; have cb10 := Cb.out.cell 10; have fb10 := Nb.out.frozen 10; have nb10 := Nb.out.cell 10
          have y0 := Nc.out.cell 0; have y1 := Nc.out.cell 1; have y2 := Nc.out.cell 2; have y3 := Nc.out.cell 3; have y4 := Nc.out.cell 4; have y5 := Nc.out.cell 5; have y6 := Nc.out.cell 6; have y7 := Nc.out.cell 7; have y8 := Nc.out.cell 8; have y9 := Nc.out.cell 9; have y10 := Nc.out.cell 10
          have g3 : (0 : Int) ≤ (0 : Int) + (Nn : Int) := by omega
          have g4 : (0 : Int) + (Nn : Int) ≤ (dc : Int) := by omega
          have g5 : ¬ (dc : Int) = (0 : Int) := by omega
          have g6 : ((0 : Int) + (Nn : Int)).toNat - 0 = Nn := by omega
          have htl : ((d.drop 0).take Nn).length = Nn := by rw [List.length_take, List.length_drop, Hdn.out]; omega
          have HTl := hid htl
          obtain ⟨q, hq⟩ : ∃ q : Pk, q = ⟨sv, pid, false, true, off, lf, pr, fr, to, oA, oc, o, (some ⟨db, dof, none⟩), dc, (d.drop 0).take Nn⟩ := ⟨_, rfl⟩
          have HQq := hid hq
          have hcs : q.cs.toArray = #[.int .i64 sv, .int .i64 pid, .bool false, .bool true, .int .i64 off, .int .i64 lf, .int .i64 pr, .int .u32 fr, .int .u32 to, .slice oA on oc, .slice (some ⟨db, dof, none⟩) Nn dc] := by unfold Pk.cs; rw [hq]; simp only [htl, HOL.out]
          have HOne : Hid (RdS (Wc.alloc (.cells #[.int .i64 sv, .int .i64 pid, .bool false, .bool true, .int .i64 off, .int .i64 lf, .int .i64 pr, .int .u32 fr, .int .u32 to, .slice oA on oc, .slice (some ⟨db, dof, none⟩) Nn dc] 26)) (some ⟨Wc.heap.size, 0, none⟩) 1 11 q.cs) := hid (by rw [← hcs]; exact rdS_pk Wc q)
          have qa : Hid (Only [] Wc (Wc.alloc (.cells #[.int .i64 sv, .int .i64 pid, .bool false, .bool true, .int .i64 off, .int .i64 lf, .int .i64 pr, .int .u32 fr, .int .u32 to, .slice oA on oc, .slice (some ⟨db, dof, none⟩) Nn dc] 26))) := hid ((Only.refl [] Wc).alloc _)
          have HVa := hid (own_only_nil (own_only HVy.out Oc.out (fun i hi hm => by have h1 := (own_lt HV.out i hi).2; simp at hm; omega)) qa.out)
          have hMl : M.length ≤ 100000 := by have := HMl.out.1; omega
          have Qc := hid ((Only.fresh Qy.out Oc.out (fun i hi => .inr (by have := Gw.out; simp at hi; omega))).trans qa.out)
          have Kc := hid ((KK.of_one Oc.out Qy.out.size Ny.out (by have := Gw.out; omega) (by decide)).trans (KK.of_nil qa.out (Nat.le_trans Qy.out.size Oc.out.size)))
          have hsz6 : w.heap.size + 1 ≤ (Wc.alloc (.cells #[.int .i64 sv, .int .i64 pid, .bool false, .bool true, .int .i64 off, .int .i64 lf, .int .i64 pr, .int .u32 fr, .int .u32 to, .slice oA on oc, .slice (some ⟨db, dof, none⟩) Nn dc] 26)).heap.size := by have h1 := HB.out; have h2 := Gw.out; have h3 := qa.out.size; have h4 := Oc.out.size; have h5 := Ny.out.lt; omega
          have Ccq := hid (Cc.out.only qa.out (by simp))
          clear hq hcs htl
          go_wp2_with (at_builtin; refine wpList_appS _ rfl (.tmp 90) (.tmp 92) _ rfl elemPk (w.heap.size + 1) v M.length (pcs M) rfl HVa.out (some ⟨Wc.heap.size, 0, none⟩) 1 1 q.cs rfl HOne.out (by intro e; cases e) (.inr ⟨_, _, rfl⟩) (by omega) (by unfold maxLen; omega) hsz6 ?_)
          intro v9 w9 hv9 hg9 hb9
          have HV9 : Hid (w9.ownsRow (w.heap.size + 1) 26 11 v9 (M ++ [q]).length (pcs (M ++ [q]))) := hid (by rw [pcs_app, List.length_append]; simpa [pcs] using hv9)
          have K9 := hid (KK.of_grown (base := w.heap.size) HVa.out (by decide) (by omega) Qc.out.size hg9)
          have Q9 := hid (Qc.out.of_grown hg9 (fun i hi => .inr (by have := (own_lt HVa.out i hi).1; omega)))
          have C9 : Hid (Ob w9 w.heap.size 26 #[.int .i64 sv, .int .i64 pid, .bool false, .bool true, .int .i64 off, .int .i64 lf, .int .i64 pr, .int .u32 fr, .int .u32 to, .slice oA on oc, .slice (some ⟨db, dof, none⟩) dn dc]) := hid ((hg9.block _ Ccq.out.lt (fun e => by have := (own_lt HVa.out _ e.symm).1; omega)).trans Ccq.out)
          have HB9 : Hid (w.heap.size + 1 ≤ w9.heap.size) := hid (Nat.le_trans hsz6 hg9.size)
          have kk : Hid (KK w.heap.size w w9) := hid (KK.of_nil Q9.out (Nat.le_refl _))
          have HPD9 : Hid (PDs w.heap.size w9 (M ++ [q])) := hid (PDs.add ((HPy.out.keep Kc.out).keep K9.out) (by rw [HQq.out]; show DK _ _ oA (o).length oc o; rw [HOL.out]; exact (HUy.out.keep Kc.out).keep K9.out) (by rw [HQq.out]; show DK _ _ _ ((d.drop 0).take Nn).length _ ((d.drop 0).take Nn); rw [HTl.out]; exact (((DK.of_arg HD.out (Nat.le_refl _) hdnc HCd.out HZd.out).keep kk.out).take (m := Nn) (by omega))))
          have hoffe : off = off + ((dat M).length : Int) := by have := HDl.out.1; omega
          have hd2 : (d.drop 0).length = dn - 0 := by rw [List.length_drop, Hdn.out]
          have HD9 : Hid ((0 + Nn < dn ∧ (dat (M ++ [q])).length = 0 + Nn ∧ dat (M ++ [q]) ++ d.drop (0 + Nn) = d ∧ YInv mm (sq sv pid false true off lf pr fr to o d) (M ++ [q])) ∨ (0 + Nn = dn ∧ ∃ u, CpR o u ∧ PcR mm (sq sv pid false true off lf pr fr to o d) u 0 ((M ++ [q]).map Pk.key))) := hid (by
            have h5 : (dat (M ++ [q])).length = 0 + Nn := by rw [dat_snoc, List.length_append, HDl.out.1, HQq.out]; show _ + ((d.drop 0).take Nn).length = _; rw [HTl.out]
            refine .inl ⟨by omega, h5, ?_, YInv.of (fun u' hu' => XInv.step (q := q) (n := Nn) (d2 := d.drop 0) HXv.out HDl.out.2.1 hu' (by rw [HOL.out]; exact HNq.out) (by omega) (by rw [HOL.out, hd2]; omega) ?_ (by rw [HQq.out]; exact HTl.out))⟩
            · rw [dat_snoc, HQq.out, List.append_assoc]
              show dat M ++ ((d.drop 0).take Nn ++ d.drop (0 + Nn)) = d
              rw [show d.drop (0 + Nn) = (d.drop 0).drop Nn from by rw [List.drop_drop], List.take_append_drop]
              exact HDl.out.2.1
            · rw [HQq.out]
              show (⟨sv, pid, false, true, off, lf, pr, fr, to, none, 0, o, none, 0, (d.drop 0).take Nn⟩ : Pk) = ⟨sv, pid, false, true, off + ((dat M).length : Int), lf, pr, fr, to, none, 0, o, none, 0, (d.drop 0).take Nn⟩
              rw [← hoffe])
          clear hv9 hg9 hb9 hoffe hd2 HDl HXv HQq HOne HVa HVy HPy HUy Ny Cy Qy Na Nb Nc Ca Cb Cc Oc Qc Kc qa Ccq y0 y1 y2 y3 y4 y5 y6 y7 y8 y9 y10 fa3 na3 ca3 ca10 cb10 fb10 nb10 K9 kk HV HPD HDis
          go_wp2_with fail
          go_roundg f
          case rel => exact ⟨v9, M ++ [q], 0 + Nn, rfl, by first | rfl | go_num, hid (by have := HGk.out; omega), hid (by omega), C9, HV9, HPD9, hid (.inl (by have := HA8.out; have := HN8.out; omega)), hid ⟨by rw [List.length_append]; show 8 * (M.length + 1) ≤ _; have h := HMl.out.2 (by omega); omega, fun h9 => by rw [List.length_append]; show 8 * (M.length + 1) ≤ _; have h := HMl.out.2 (by omega); omega⟩, HD9, Q9, HB9⟩
          case measure => omega
        | false =>
          obtain ⟨Wa, hWa⟩ : ∃ Wa, w7.setCell ⟨wr.heap.size, 4, none⟩ (.int .i64 off) = Wa := ⟨_, rfl⟩
          obtain ⟨Wb, hWb⟩ : ∃ Wb, Wa.setCell ⟨wr.heap.size, 3, none⟩ (.bool true) = Wb := ⟨_, rfl⟩
          obtain ⟨Wc, hWc⟩ : ∃ Wc, Wb.setCell ⟨wr.heap.size, 10, none⟩ (.slice (some ⟨db, dof, none⟩) Nn dc) = Wc := ⟨_, rfl⟩
          have Na : Hid (Ob Wa wr.heap.size 26 #[.int .i64 sv, .int .i64 pid, .bool false, .bool false, .int .i64 off, .int .i64 lf, .int .i64 pr, .int .u32 fr, .int .u32 to, .slice oA on oc, .slice (some ⟨db, dof, none⟩) dn dc]) := hid (by rw [← hWa]; exact Ny.out.set 4 _)
          have Nb : Hid (Ob Wb wr.heap.size 26 #[.int .i64 sv, .int .i64 pid, .bool false, .bool true, .int .i64 off, .int .i64 lf, .int .i64 pr, .int .u32 fr, .int .u32 to, .slice oA on oc, .slice (some ⟨db, dof, none⟩) dn dc]) := hid (by rw [← hWb]; exact Na.out.set 3 _)
          have Nc : Hid (Ob Wc wr.heap.size 26 #[.int .i64 sv, .int .i64 pid, .bool false, .bool true, .int .i64 off, .int .i64 lf, .int .i64 pr, .int .u32 fr, .int .u32 to, .slice oA on oc, .slice (some ⟨db, dof, none⟩) Nn dc]) := hid (by rw [← hWc]; exact Nb.out.set 10 _)
          have Ca : Hid (Ob Wa w.heap.size 26 #[.int .i64 sv, .int .i64 pid, .bool false, .bool false, .int .i64 off, .int .i64 lf, .int .i64 pr, .int .u32 fr, .int .u32 to, .slice oA on oc, .slice (some ⟨db, dof, none⟩) dn dc]) := hid (by rw [← hWa]; exact Cy.out.far (p := ⟨wr.heap.size, 4, none⟩) (by have := Gw.out; show w.heap.size ≠ wr.heap.size; omega) _)
          have Cb : Hid (Ob Wb w.heap.size 26 #[.int .i64 sv, .int .i64 pid, .bool false, .bool false, .int .i64 off, .int .i64 lf, .int .i64 pr, .int .u32 fr, .int .u32 to, .slice oA on oc, .slice (some ⟨db, dof, none⟩) dn dc]) := hid (by rw [← hWb]; exact Ca.out.far (p := ⟨wr.heap.size, 3, none⟩) (by have := Gw.out; show w.heap.size ≠ wr.heap.size; omega) _)
          have Cc : Hid (Ob Wc w.heap.size 26 #[.int .i64 sv, .int .i64 pid, .bool false, .bool false, .int .i64 off, .int .i64 lf, .int .i64 pr, .int .u32 fr, .int .u32 to, .slice oA on oc, .slice (some ⟨db, dof, none⟩) dn dc]) := hid (by rw [← hWc]; exact Cb.out.far (p := ⟨wr.heap.size, 10, none⟩) (by have := Gw.out; show w.heap.size ≠ wr.heap.size; omega) _)
          have Oc : Hid (Only [wr.heap.size] w7 Wc) := hid (by rw [← hWc, ← hWb, ← hWa]; exact (((Only.refl [wr.heap.size] w7).setCell (p := ⟨wr.heap.size, 4, none⟩) (Or.inl (by simp)) _).setCell (p := ⟨wr.heap.size, 3, none⟩) (Or.inl (by simp)) _).setCell (p := ⟨wr.heap.size, 10, none⟩) (Or.inl (by simp)) _)
          have fa3 := Na.out.frozen 3; have na3 := Na.out.cell 3; have ca3 := Ca.out.cell 3; have ca10 := Ca.out.cell 10; have cb10 := Cb.out.cell 10; have fb10 := Nb.out.frozen 10; have nb10 := Nb.out.cell 10
          have y0 := Nc.out.cell 0; have y1 := Nc.out.cell 1; have y2 := Nc.out.cell 2; have y3 := Nc.out.cell 3; have y4 := Nc.out.cell 4; have y5 := Nc.out.cell 5; have y6 := Nc.out.cell 6; have y7 := Nc.out.cell 7; have y8 := Nc.out.cell 8; have y9 := Nc.out.cell 9; have y10 := Nc.out.cell 10
          have g3 : (0 : Int) ≤ (0 : Int) + (Nn : Int) := by omega
          have g4 : (0 : Int) + (Nn : Int) ≤ (dc : Int) := by omega
          have g5 : ¬ (dc : Int) = (0 : Int) := by omega
          have g6 : ((0 : Int) + (Nn : Int)).toNat - 0 = Nn := by omega
          have htl : ((d.drop 0).take Nn).length = Nn := by rw [List.length_take, List.length_drop, Hdn.out]; omega
          have HTl := hid htl
          obtain ⟨q, hq⟩ : ∃ q : Pk, q = ⟨sv, pid, false, true, off, lf, pr, fr, to, oA, oc, o, (some ⟨db, dof, none⟩), dc, (d.drop 0).take Nn⟩ := ⟨_, rfl⟩
          have HQq := hid hq
          have hcs : q.cs.toArray = #[.int .i64 sv, .int .i64 pid, .bool false, .bool true, .int .i64 off, .int .i64 lf, .int .i64 pr, .int .u32 fr, .int .u32 to, .slice oA on oc, .slice (some ⟨db, dof, none⟩) Nn dc] := by unfold Pk.cs; rw [hq]; simp only [htl, HOL.out]
          have HOne : Hid (RdS (Wc.alloc (.cells #[.int .i64 sv, .int .i64 pid, .bool false, .bool true, .int .i64 off, .int .i64 lf, .int .i64 pr, .int .u32 fr, .int .u32 to, .slice oA on oc, .slice (some ⟨db, dof, none⟩) Nn dc] 26)) (some ⟨Wc.heap.size, 0, none⟩) 1 11 q.cs) := hid (by rw [← hcs]; exact rdS_pk Wc q)
          have qa : Hid (Only [] Wc (Wc.alloc (.cells #[.int .i64 sv, .int .i64 pid, .bool false, .bool true, .int .i64 off, .int .i64 lf, .int .i64 pr, .int .u32 fr, .int .u32 to, .slice oA on oc, .slice (some ⟨db, dof, none⟩) Nn dc] 26))) := hid ((Only.refl [] Wc).alloc _)
          have HVa := hid (own_only_nil (own_only HVy.out Oc.out (fun i hi hm => by have h1 := (own_lt HV.out i hi).2; simp at hm; omega)) qa.out)
          have hMl : M.length ≤ 100000 := by have := HMl.out.1; omega
          have Qc := hid ((Only.fresh Qy.out Oc.out (fun i hi => .inr (by have := Gw.out; simp at hi; omega))).trans qa.out)
          have Kc := hid ((KK.of_one Oc.out Qy.out.size Ny.out (by have := Gw.out; omega) (by decide)).trans (KK.of_nil qa.out (Nat.le_trans Qy.out.size Oc.out.size)))
          have hsz6 : w.heap.size + 1 ≤ (Wc.alloc (.cells #[.int .i64 sv, .int .i64 pid, .bool false, .bool true, .int .i64 off, .int .i64 lf, .int .i64 pr, .int .u32 fr, .int .u32 to, .slice oA on oc, .slice (some ⟨db, dof, none⟩) Nn dc] 26)).heap.size := by have h1 := HB.out; have h2 := Gw.out; have h3 := qa.out.size; have h4 := Oc.out.size; have h5 := Ny.out.lt; omega
          have Ccq := hid (Cc.out.only qa.out (by simp))
          clear hq hcs htl
          go_wp2_with (at_builtin; refine wpList_appS _ rfl (.tmp 90) (.tmp 92) _ rfl elemPk (w.heap.size + 1) v M.length (pcs M) rfl HVa.out (some ⟨Wc.heap.size, 0, none⟩) 1 1 q.cs rfl HOne.out (by intro e; cases e) (.inr ⟨_, _, rfl⟩) (by omega) (by unfold maxLen; omega) hsz6 ?_)
          intro v9 w9 hv9 hg9 hb9
          have HV9 : Hid (w9.ownsRow (w.heap.size + 1) 26 11 v9 (M ++ [q]).length (pcs (M ++ [q]))) := hid (by rw [pcs_app, List.length_append]; simpa [pcs] using hv9)
          have K9 := hid (KK.of_grown (base := w.heap.size) HVa.out (by decide) (by omega) Qc.out.size hg9)
          have Q9 := hid (Qc.out.of_grown hg9 (fun i hi => .inr (by have := (own_lt HVa.out i hi).1; omega)))
          have C9 : Hid (Ob w9 w.heap.size 26 #[.int .i64 sv, .int .i64 pid, .bool false, .bool false, .int .i64 off, .int .i64 lf, .int .i64 pr, .int .u32 fr, .int .u32 to, .slice oA on oc, .slice (some ⟨db, dof, none⟩) dn dc]) := hid ((hg9.block _ Ccq.out.lt (fun e => by have := (own_lt HVa.out _ e.symm).1; omega)).trans Ccq.out)
          have HB9 : Hid (w.heap.size + 1 ≤ w9.heap.size) := hid (Nat.le_trans hsz6 hg9.size)
          have kk : Hid (KK w.heap.size w w9) := hid (KK.of_nil Q9.out (Nat.le_refl _))
          have HPD9 : Hid (PDs w.heap.size w9 (M ++ [q])) := hid (PDs.add ((HPy.out.keep Kc.out).keep K9.out) (by rw [HQq.out]; show DK _ _ oA (o).length oc o; rw [HOL.out]; exact (HUy.out.keep Kc.out).keep K9.out) (by rw [HQq.out]; show DK _ _ _ ((d.drop 0).take Nn).length _ ((d.drop 0).take Nn); rw [HTl.out]; exact (((DK.of_arg HD.out (Nat.le_refl _) hdnc HCd.out HZd.out).keep kk.out).take (m := Nn) (by omega))))
          have hoffe : off = off + ((dat M).length : Int) := by have := HDl.out.1; omega
          have hd2 : (d.drop 0).length = dn - 0 := by rw [List.length_drop, Hdn.out]
          have HD9 : Hid ((0 + Nn < dn ∧ (dat (M ++ [q])).length = 0 + Nn ∧ dat (M ++ [q]) ++ d.drop (0 + Nn) = d ∧ YInv mm (sq sv pid false false off lf pr fr to o d) (M ++ [q])) ∨ (0 + Nn = dn ∧ ∃ u, CpR o u ∧ PcR mm (sq sv pid false false off lf pr fr to o d) u 0 ((M ++ [q]).map Pk.key))) := hid (by
            have h5 : (dat (M ++ [q])).length = 0 + Nn := by rw [dat_snoc, List.length_append, HDl.out.1, HQq.out]; show _ + ((d.drop 0).take Nn).length = _; rw [HTl.out]
            refine .inl ⟨by omega, h5, ?_, YInv.of (fun u' hu' => XInv.step (q := q) (n := Nn) (d2 := d.drop 0) HXv.out HDl.out.2.1 hu' (by rw [HOL.out]; exact HNq.out) (by omega) (by rw [HOL.out, hd2]; omega) ?_ (by rw [HQq.out]; exact HTl.out))⟩
            · rw [dat_snoc, HQq.out, List.append_assoc]
              show dat M ++ ((d.drop 0).take Nn ++ d.drop (0 + Nn)) = d
              rw [show d.drop (0 + Nn) = (d.drop 0).drop Nn from by rw [List.drop_drop], List.take_append_drop]
              exact HDl.out.2.1
            · rw [HQq.out]
              show (⟨sv, pid, false, true, off, lf, pr, fr, to, none, 0, o, none, 0, (d.drop 0).take Nn⟩ : Pk) = ⟨sv, pid, false, true, off + ((dat M).length : Int), lf, pr, fr, to, none, 0, o, none, 0, (d.drop 0).take Nn⟩
              rw [← hoffe])
          clear hv9 hg9 hb9 hoffe hd2 HDl HXv HQq HOne HVa HVy HPy HUy Ny Cy Qy Na Nb Nc Ca Cb Cc Oc Qc Kc qa Ccq y0 y1 y2 y3 y4 y5 y6 y7 y8 y9 y10 fa3 na3 ca3 ca10 cb10 fb10 nb10 K9 kk HV HPD HDis
          go_wp2_with fail
          go_roundg f
          case rel => exact ⟨v9, M ++ [q], 0 + Nn, rfl, by first | rfl | go_num, hid (by have := HGk.out; omega), hid (by omega), C9, HV9, HPD9, hid (.inl (by have := HA8.out; have := HN8.out; omega)), hid ⟨by rw [List.length_append]; show 8 * (M.length + 1) ≤ _; have h := HMl.out.2 (by omega); omega, fun h9 => by rw [List.length_append]; show 8 * (M.length + 1) ≤ _; have h := HMl.out.2 (by omega); omega⟩, HD9, Q9, HB9⟩
          case measure => omega
      have ha1 : (0 : Int) < (a : Int) := by omega
      have ha2 : 0 < a := by omega
      have n0 := N13.out.cell 0; have n1 := N13.out.cell 1; have n2 := N13.out.cell 2; have n3 := N13.out.cell 3; have n4 := N13.out.cell 4; have n5 := N13.out.cell 5; have n6 := N13.out.cell 6; have n7 := N13.out.cell 7; have n8 := N13.out.cell 8; have n9 := N13.out.cell 9; have n10 := N13.out.cell 10
      have z9 := R13.out.cell 9
      go_wp2_with fail
      refine (dcopied1 _ oA on oc o (HO.out.only_nil (QR.out.trans O13.out)) hnc HCo.out (by omega) HOf.out).mono ?_
      rintro x w8 ⟨vu, u, rfl, hu, hcp, hofs, hul, o8⟩
      obtain ⟨A7, c7, rfl, _, _⟩ := own_form hu
      have HUc := hid hcp; have HUf := hid hofs
      have N8 := hid (N13.out.only o8 (by simp)); have R8 := hid (R13.out.only o8 (by simp))
      have HUo : Hid (DK w.heap.size w8 A7 u.length c7 u) := hid (DK.of_own hu)
      obtain ⟨W9, hW9⟩ : ∃ W9, w8.setCell ⟨wr.heap.size, 9, none⟩ (.slice A7 u.length c7) = W9 := ⟨_, rfl⟩
      have Nw : Hid (Ob W9 wr.heap.size 26 #[.int .i64 sv, .int .i64 pid, .bool false, .bool mo, .int .i64 off, .int .i64 lf, .int .i64 pr, .int .u32 fr, .int .u32 to, .slice A7 u.length c7, .slice dA dn dc]) := hid (by rw [← hW9]; exact N8.out.set 9 _)
      have Cw : Hid (Ob W9 w.heap.size 26 #[.int .i64 sv, .int .i64 pid, .bool false, .bool mo, .int .i64 off, .int .i64 lf, .int .i64 pr, .int .u32 fr, .int .u32 to, .slice oA on oc, .slice dA dn dc]) := hid (by rw [← hW9]; exact R8.out.far (p := ⟨wr.heap.size, 9, none⟩) (by have := HR.out.lt; show w.heap.size ≠ wr.heap.size; omega) _)
      have O9 : Hid (Only [wr.heap.size] wr W9) := hid (((O13.out.more (by simp)).trans (o8.more (by simp))).trans (by rw [← hW9]; exact (Only.refl [wr.heap.size] w8).setCell (p := ⟨wr.heap.size, 9, none⟩) (Or.inl (by simp)) _))
      have O8' : Hid (Only [wr.heap.size] w8 W9) := hid (by rw [← hW9]; exact (Only.refl [wr.heap.size] w8).setCell (p := ⟨wr.heap.size, 9, none⟩) (Or.inl (by simp)) _)
      have Qw : Hid (Only [] w W9) := hid (Only.fresh QR.out O9.out (fun i hi => .inr (by have := HR.out.lt; simp at hi; omega)))
      have Q8 := hid (QR.out.trans (O13.out.trans o8))
      have K9 := KK.of_one O8'.out Q8.out.size N8.out (by have := HR.out.lt; omega) (by decide)
      have HVw := hid (own_only HV.out O9.out (fun i hi hm => by have h1 := (own_lt HV.out i hi).2; simp at hm; omega))
      have HPw := hid ((HPD.out.keep (KK.of_nil (O13.out.trans o8) QR.out.size)).keep K9)
      have HUw := hid (HUo.out.keep K9)
      have m9 := N8.out.cell 9; have f9 := N8.out.frozen 9
      have HXv := hid (HDl.out.2.2.x (o2 := u) (.inr ⟨by rw [HDl.out.1]; exact ha2, hcp⟩)); have HOL : Hid (u.length = u.length) := hid rfl
      clear n0 n1 n2 n3 n4 n5 n6 n7 n8 n10 n9 z9 hu hcp hofs K9 Q8 O8' O9 HUo R8 N13 R13 o8
      have Gw : Hid (w.heap.size < wr.heap.size) := hid HR.out.lt
      have n0 := Nw.out.cell 0; have n1 := Nw.out.cell 1; have n2 := Nw.out.cell 2; have n3 := Nw.out.cell 3; have n4 := Nw.out.cell 4; have n5 := Nw.out.cell 5; have n6 := Nw.out.cell 6; have n7 := Nw.out.cell 7; have n8 := Nw.out.cell 8; have n9 := Nw.out.cell 9; have n10 := Nw.out.cell 10
      have z0 := Cw.out.cell 0; have z1 := Cw.out.cell 1; have z2 := Cw.out.cell 2; have z3 := Cw.out.cell 3; have z4 := Cw.out.cell 4; have z5 := Cw.out.cell 5; have z6 := Cw.out.cell 6; have z7 := Cw.out.cell 7; have z8 := Cw.out.cell 8; have z9 := Cw.out.cell 9; have z10 := Cw.out.cell 10
      obtain ⟨R, hR⟩ : ∃ R : Nat, (mm : Int) - ((hl u.length : Nat) : Int) = (R : Int) := ⟨mm - hl u.length, by have := hl_bd u.length; omega⟩
      have hR8 : 8 ≤ R := by have : hl u.length ≤ 60 := by unfold hl; omega
                             omega
      have hRm : R + hl u.length = mm := by omega
      obtain ⟨rs, hrs⟩ : ∃ rs : Nat, (dn : Int) - (a : Int) = (rs : Int) := ⟨dn - a, by omega⟩
      go_wp2_with fail
      refine (head2 _ sv pid off lf pr false mo fr to A7 u.length c7 dA dn dc (by omega)).mono ?_
      rintro x w6 ⟨rfl, o6⟩
      have Nx := hid (Nw.out.only o6 (by simp)); have Cx := hid (Cw.out.only o6 (by simp)); have Qx := hid (Qw.out.trans o6); have HVx := hid (own_only_nil HVw.out o6); have HPx := hid (HPw.out.keep (KK.of_nil o6 Qw.out.size)); have HUx := hid (HUw.out.keep (KK.of_nil o6 Qw.out.size))
      clear n0 n1 n2 n3 n4 n5 n6 n7 n8 n9 n10 z0 z1 z2 z3 z4 z5 z6 z7 z8 z9 z10
      clear o6 Nw Cw Qw HVw HPw HUw
      have n0 := Nx.out.cell 0; have n1 := Nx.out.cell 1; have n2 := Nx.out.cell 2; have n3 := Nx.out.cell 3; have n4 := Nx.out.cell 4; have n5 := Nx.out.cell 5; have n6 := Nx.out.cell 6; have n7 := Nx.out.cell 7; have n8 := Nx.out.cell 8; have n9 := Nx.out.cell 9; have n10 := Nx.out.cell 10
      have z0 := Cx.out.cell 0; have z1 := Cx.out.cell 1; have z2 := Cx.out.cell 2; have z3 := Cx.out.cell 3; have z4 := Cx.out.cell 4; have z5 := Cx.out.cell 5; have z6 := Cx.out.cell 6; have z7 := Cx.out.cell 7; have z8 := Cx.out.cell 8; have z9 := Cx.out.cell 9; have z10 := Cx.out.cell 10
      go_wp2_with fail
      refine (head2 _ sv pid off lf pr false mo fr to A7 u.length c7 dA dn dc (by omega)).mono ?_
      rintro x w7 ⟨rfl, o7⟩
      have Ny := hid (Nx.out.only o7 (by simp)); have Cy := hid (Cx.out.only o7 (by simp)); have Qy := hid (Qx.out.trans o7); have HVy := hid (own_only_nil HVx.out o7); have HPy := hid (HPx.out.keep (KK.of_nil o7 Qx.out.size)); have HUy := hid (HUx.out.keep (KK.of_nil o7 Qx.out.size))
      clear n0 n1 n2 n3 n4 n5 n6 n7 n8 n9 n10 z0 z1 z2 z3 z4 z5 z6 z7 z8 z9 z10
      clear o7 Nx Cx Qx HVx HPx HUx
      have n0 := Ny.out.cell 0; have n1 := Ny.out.cell 1; have n2 := Ny.out.cell 2; have n3 := Ny.out.cell 3; have n4 := Ny.out.cell 4; have n5 := Ny.out.cell 5; have n6 := Ny.out.cell 6; have n7 := Ny.out.cell 7; have n8 := Ny.out.cell 8; have n9 := Ny.out.cell 9; have n10 := Ny.out.cell 10
      have z0 := Cy.out.cell 0; have z1 := Cy.out.cell 1; have z2 := Cy.out.cell 2; have z3 := Cy.out.cell 3; have z4 := Cy.out.cell 4; have z5 := Cy.out.cell 5; have z6 := Cy.out.cell 6; have z7 := Cy.out.cell 7; have z8 := Cy.out.cell 8; have z9 := Cy.out.cell 9; have z10 := Cy.out.cell 10
      have f3 := Ny.out.frozen 3; have f4 := Ny.out.frozen 4; have f10 := Ny.out.frozen 10
      obtain ⟨db, dof, edA, _⟩ := HD.out.cells (by omega)
      subst edA
      by_cases hf : rs ≤ R
      case pos =>
        have hfz : (rs : Int) ≤ (R : Int) := by omega
        have hlast : ¬ (a : Int) + (rs : Int) < (dn : Int) := by omega
        have hlast2 : ¬ a + rs < dn := by omega
        have hlast3 : decide ((a : Int) + (rs : Int) < (dn : Int)) = false := decide_eq_false (by omega)
        cases mo with
        | true =>
          obtain ⟨Wa, hWa⟩ : ∃ Wa, w7.setCell ⟨wr.heap.size, 4, none⟩ (.int .i64 (off + (a : Int))) = Wa := ⟨_, rfl⟩
          obtain ⟨Wb, hWb⟩ : ∃ Wb, Wa.setCell ⟨wr.heap.size, 3, none⟩ (.bool true) = Wb := ⟨_, rfl⟩
          obtain ⟨Wc, hWc⟩ : ∃ Wc, Wb.setCell ⟨wr.heap.size, 10, none⟩ (.slice (some ⟨db, dof + a, none⟩) rs (dc - a)) = Wc := ⟨_, rfl⟩
          have Na : Hid (Ob Wa wr.heap.size 26 #[.int .i64 sv, .int .i64 pid, .bool false, .bool true, .int .i64 (off + (a : Int)), .int .i64 lf, .int .i64 pr, .int .u32 fr, .int .u32 to, .slice A7 u.length c7, .slice (some ⟨db, dof, none⟩) dn dc]) := hid (by rw [← hWa]; exact Ny.out.set 4 _)
          have Nb : Hid (Ob Wb wr.heap.size 26 #[.int .i64 sv, .int .i64 pid, .bool false, .bool true, .int .i64 (off + (a : Int)), .int .i64 lf, .int .i64 pr, .int .u32 fr, .int .u32 to, .slice A7 u.length c7, .slice (some ⟨db, dof, none⟩) dn dc]) := hid (by rw [← hWb]; exact Na.out.set 3 _)
          have Nc : Hid (Ob Wc wr.heap.size 26 #[.int .i64 sv, .int .i64 pid, .bool false, .bool true, .int .i64 (off + (a : Int)), .int .i64 lf, .int .i64 pr, .int .u32 fr, .int .u32 to, .slice A7 u.length c7, .slice (some ⟨db, dof + a, none⟩) rs (dc - a)]) := hid (by rw [← hWc]; exact Nb.out.set 10 _)
          have Ca : Hid (Ob Wa w.heap.size 26 #[.int .i64 sv, .int .i64 pid, .bool false, .bool true, .int .i64 off, .int .i64 lf, .int .i64 pr, .int .u32 fr, .int .u32 to, .slice oA on oc, .slice (some ⟨db, dof, none⟩) dn dc]) := hid (by rw [← hWa]; exact Cy.out.far (p := ⟨wr.heap.size, 4, none⟩) (by have := Gw.out; show w.heap.size ≠ wr.heap.size; omega) _)
          have Cb : Hid (Ob Wb w.heap.size 26 #[.int .i64 sv, .int .i64 pid, .bool false, .bool true, .int .i64 off, .int .i64 lf, .int .i64 pr, .int .u32 fr, .int .u32 to, .slice oA on oc, .slice (some ⟨db, dof, none⟩) dn dc]) := hid (by rw [← hWb]; exact Ca.out.far (p := ⟨wr.heap.size, 3, none⟩) (by have := Gw.out; show w.heap.size ≠ wr.heap.size; omega) _)
          have Cc : Hid (Ob Wc w.heap.size 26 #[.int .i64 sv, .int .i64 pid, .bool false, .bool true, .int .i64 off, .int .i64 lf, .int .i64 pr, .int .u32 fr, .int .u32 to, .slice oA on oc, .slice (some ⟨db, dof, none⟩) dn dc]) := hid (by rw [← hWc]; exact Cb.out.far (p := ⟨wr.heap.size, 10, none⟩) (by have := Gw.out; show w.heap.size ≠ wr.heap.size; omega) _)
          have Oc : Hid (Only [wr.heap.size] w7 Wc) := hid (by rw [← hWc, ← hWb, ← hWa]; exact (((Only.refl [wr.heap.size] w7).setCell (p := ⟨wr.heap.size, 4, none⟩) (Or.inl (by simp)) _).setCell (p := ⟨wr.heap.size, 3, none⟩) (Or.inl (by simp)) _).setCell (p := ⟨wr.heap.size, 10, none⟩) (Or.inl (by simp)) _)
          have fa3 := Na.out.frozen 3; have na3 := Na.out.cell 3; have ca3 := Ca.out.cell 3; have ca10 := Ca.out.cell 10; have cb10 := Cb.out.cell 10; have fb10 := Nb.out.frozen 10; have nb10 := Nb.out.cell 10
          have y0 := Nc.out.cell 0; have y1 := Nc.out.cell 1; have y2 := Nc.out.cell 2; have y3 := Nc.out.cell 3; have y4 := Nc.out.cell 4; have y5 := Nc.out.cell 5; have y6 := Nc.out.cell 6; have y7 := Nc.out.cell 7; have y8 := Nc.out.cell 8; have y9 := Nc.out.cell 9; have y10 := Nc.out.cell 10
          have g3 : (a : Int) ≤ (a : Int) + (rs : Int) := by omega
          have g4 : (a : Int) + (rs : Int) ≤ (dc : Int) := by omega
          have g5 : ¬ (dc : Int) = (a : Int) := by omega
          have g6 : ((a : Int) + (rs : Int)).toNat - a = rs := by omega
          have htl : ((d.drop a).take rs).length = rs := by rw [List.length_take, List.length_drop, Hdn.out]; omega
          have HTl := hid htl
          obtain ⟨q, hq⟩ : ∃ q : Pk, q = ⟨sv, pid, false, true, (off + (a : Int)), lf, pr, fr, to, A7, c7, u, (some ⟨db, dof + a, none⟩), dc - a, (d.drop a).take rs⟩ := ⟨_, rfl⟩
          have HQq := hid hq
          have hcs : q.cs.toArray = #[.int .i64 sv, .int .i64 pid, .bool false, .bool true, .int .i64 (off + (a : Int)), .int .i64 lf, .int .i64 pr, .int .u32 fr, .int .u32 to, .slice A7 u.length c7, .slice (some ⟨db, dof + a, none⟩) rs (dc - a)] := by unfold Pk.cs; rw [hq]; simp only [htl]
          have HOne : Hid (RdS (Wc.alloc (.cells #[.int .i64 sv, .int .i64 pid, .bool false, .bool true, .int .i64 (off + (a : Int)), .int .i64 lf, .int .i64 pr, .int .u32 fr, .int .u32 to, .slice A7 u.length c7, .slice (some ⟨db, dof + a, none⟩) rs (dc - a)] 26)) (some ⟨Wc.heap.size, 0, none⟩) 1 11 q.cs) := hid (by rw [← hcs]; exact rdS_pk Wc q)
          have qa : Hid (Only [] Wc (Wc.alloc (.cells #[.int .i64 sv, .int .i64 pid, .bool false, .bool true, .int .i64 (off + (a : Int)), .int .i64 lf, .int .i64 pr, .int .u32 fr, .int .u32 to, .slice A7 u.length c7, .slice (some ⟨db, dof + a, none⟩) rs (dc - a)] 26))) := hid ((Only.refl [] Wc).alloc _)
          have HVa := hid (own_only_nil (own_only HVy.out Oc.out (fun i hi hm => by have h1 := (own_lt HV.out i hi).2; simp at hm; omega)) qa.out)
          have hMl : M.length ≤ 100000 := by have := HMl.out.1; omega
          have Qc := hid ((Only.fresh Qy.out Oc.out (fun i hi => .inr (by have := Gw.out; simp at hi; omega))).trans qa.out)
          have Kc := hid ((KK.of_one Oc.out Qy.out.size Ny.out (by have := Gw.out; omega) (by decide)).trans (KK.of_nil qa.out (Nat.le_trans Qy.out.size Oc.out.size)))
          have hsz6 : w.heap.size + 1 ≤ (Wc.alloc (.cells #[.int .i64 sv, .int .i64 pid, .bool false, .bool true, .int .i64 (off + (a : Int)), .int .i64 lf, .int .i64 pr, .int .u32 fr, .int .u32 to, .slice A7 u.length c7, .slice (some ⟨db, dof + a, none⟩) rs (dc - a)] 26)).heap.size := by have h1 := HB.out; have h2 := Gw.out; have h3 := qa.out.size; have h4 := Oc.out.size; have h5 := Ny.out.lt; omega
          have Ccq := hid (Cc.out.only qa.out (by simp))
          clear hq hcs htl
          go_wp2_with (at_builtin; refine wpList_appS _ rfl (.tmp 90) (.tmp 92) _ rfl elemPk (w.heap.size + 1) v M.length (pcs M) rfl HVa.out (some ⟨Wc.heap.size, 0, none⟩) 1 1 q.cs rfl HOne.out (by intro e; cases e) (.inr ⟨_, _, rfl⟩) (by omega) (by unfold maxLen; omega) hsz6 ?_)
          intro v9 w9 hv9 hg9 hb9
          have HV9 : Hid (w9.ownsRow (w.heap.size + 1) 26 11 v9 (M ++ [q]).length (pcs (M ++ [q]))) := hid (by rw [pcs_app, List.length_append]; simpa [pcs] using hv9)
          have K9 := hid (KK.of_grown (base := w.heap.size) HVa.out (by decide) (by omega) Qc.out.size hg9)
          have Q9 := hid (Qc.out.of_grown hg9 (fun i hi => .inr (by have := (own_lt HVa.out i hi).1; omega)))
          have C9 : Hid (Ob w9 w.heap.size 26 #[.int .i64 sv, .int .i64 pid, .bool false, .bool true, .int .i64 off, .int .i64 lf, .int .i64 pr, .int .u32 fr, .int .u32 to, .slice oA on oc, .slice (some ⟨db, dof, none⟩) dn dc]) := hid ((hg9.block _ Ccq.out.lt (fun e => by have := (own_lt HVa.out _ e.symm).1; omega)).trans Ccq.out)
          have HB9 : Hid (w.heap.size + 1 ≤ w9.heap.size) := hid (Nat.le_trans hsz6 hg9.size)
          have kk : Hid (KK w.heap.size w w9) := hid (KK.of_nil Q9.out (Nat.le_refl _))
          have HPD9 : Hid (PDs w.heap.size w9 (M ++ [q])) := hid (PDs.add ((HPy.out.keep Kc.out).keep K9.out) (by rw [HQq.out]; show DK _ _ A7 (u).length c7 u; exact (HUy.out.keep Kc.out).keep K9.out) (by rw [HQq.out]; show DK _ _ _ ((d.drop a).take rs).length _ ((d.drop a).take rs); rw [HTl.out]; exact ((((DK.of_arg HD.out (Nat.le_refl _) hdnc HCd.out HZd.out).keep kk.out).drop (m := a) (by omega)).take (m := rs) (by omega))))
          have hoffe : (off + (a : Int)) = off + ((dat M).length : Int) := by have := HDl.out.1; omega
          have hd2 : (d.drop a).length = dn - a := by rw [List.length_drop, Hdn.out]
          have HD9 : Hid ((a + rs < dn ∧ (dat (M ++ [q])).length = a + rs ∧ dat (M ++ [q]) ++ d.drop (a + rs) = d ∧ YInv mm (sq sv pid false true off lf pr fr to o d) (M ++ [q])) ∨ (a + rs = dn ∧ ∃ u, CpR o u ∧ PcR mm (sq sv pid false true off lf pr fr to o d) u 0 ((M ++ [q]).map Pk.key))) := hid (by
            refine .inr ⟨by omega, XInv.last (q := q) (d2 := d.drop a) HXv.out HDl.out.2.1 HOf.out (by rw [hd2]; omega) ?_⟩
            rw [HQq.out]
            show (⟨sv, pid, false, true, (off + (a : Int)), lf, pr, fr, to, none, 0, u, none, 0, (d.drop a).take rs⟩ : Pk) = ⟨sv, pid, false, true, off + ((dat M).length : Int), lf, pr, fr, to, none, 0, u, none, 0, d.drop a⟩
            rw [← hoffe, List.take_of_length_le (by rw [hd2]; omega)])
          clear hv9 hg9 hb9 hoffe hd2 HDl HXv HQq HOne HVa HVy HPy HUy Ny Cy Qy Na Nb Nc Ca Cb Cc Oc Qc Kc qa Ccq y0 y1 y2 y3 y4 y5 y6 y7 y8 y9 y10 fa3 na3 ca3 ca10 cb10 fb10 nb10 K9 kk HV HPD HDis
          go_wp2_with fail
          go_roundg f
          case rel => exact ⟨v9, M ++ [q], a + rs, rfl, by first | rfl | go_num, hid (by have := HGk.out; omega), hid (by omega), C9, HV9, HPD9, hid (.inr (by omega)), hid ⟨by rw [List.length_append]; show 8 * (M.length + 1) ≤ _; have h := HMl.out.2 (by omega); omega, fun h9 => by rw [List.length_append]; show 8 * (M.length + 1) ≤ _; have h := HMl.out.2 (by omega); omega⟩, HD9, Q9, HB9⟩
          case measure => omega
        | false =>
          obtain ⟨Wa, hWa⟩ : ∃ Wa, w7.setCell ⟨wr.heap.size, 4, none⟩ (.int .i64 (off + (a : Int))) = Wa := ⟨_, rfl⟩
          obtain ⟨Wb, hWb⟩ : ∃ Wb, Wa.setCell ⟨wr.heap.size, 3, none⟩ (.bool false) = Wb := ⟨_, rfl⟩
          obtain ⟨Wc, hWc⟩ : ∃ Wc, Wb.setCell ⟨wr.heap.size, 10, none⟩ (.slice (some ⟨db, dof + a, none⟩) rs (dc - a)) = Wc := ⟨_, rfl⟩
          have Na : Hid (Ob Wa wr.heap.size 26 #[.int .i64 sv, .int .i64 pid, .bool false, .bool false, .int .i64 (off + (a : Int)), .int .i64 lf, .int .i64 pr, .int .u32 fr, .int .u32 to, .slice A7 u.length c7, .slice (some ⟨db, dof, none⟩) dn dc]) := hid (by rw [← hWa]; exact Ny.out.set 4 _)
          have Nb : Hid (Ob Wb wr.heap.size 26 #[.int .i64 sv, .int .i64 pid, .bool false, .bool false, .int .i64 (off + (a : Int)), .int .i64 lf, .int .i64 pr, .int .u32 fr, .int .u32 to, .slice A7 u.length c7, .slice (some ⟨db, dof, none⟩) dn dc]) := hid (by rw [← hWb]; exact Na.out.set 3 _)
          have Nc : Hid (Ob Wc wr.heap.size 26 #[.int .i64 sv, .int .i64 pid, .bool false, .bool false, .int .i64 (off + (a : Int)), .int .i64 lf, .int .i64 pr, .int .u32 fr, .int .u32 to, .slice A7 u.length c7, .slice (some ⟨db, dof + a, none⟩) rs (dc - a)]) := hid (by rw [← hWc]; exact Nb.out.set 10 _)
          have Ca : Hid (Ob Wa w.heap.size 26 #[.int .i64 sv, .int .i64 pid, .bool false, .bool false, .int .i64 off, .int .i64 lf, .int .i64 pr, .int .u32 fr, .int .u32 to, .slice oA on oc, .slice (some ⟨db, dof, none⟩) dn dc]) := hid (by rw [← hWa]; exact Cy.out.far (p := ⟨wr.heap.size, 4, none⟩) (by have := Gw.out; show w.heap.size ≠ wr.heap.size; omega) _)
          have Cb : Hid (Ob Wb w.heap.size 26 #[.int .i64 sv, .int .i64 pid, .bool false, .bool false, .int .i64 off, .int .i64 lf, .int .i64 pr, .int .u32 fr, .int .u32 to, .slice oA on oc, .slice (some ⟨db, dof, none⟩) dn dc]) := hid (by rw [← hWb]; exact Ca.out.far (p := ⟨wr.heap.size, 3, none⟩) (by have := Gw.out; show w.heap.size ≠ wr.heap.size; omega) _)
          have Cc : Hid (Ob Wc w.heap.size 26 #[.int .i64 sv, .int .i64 pid, .bool false, .bool false, .int .i64 off, .int .i64 lf, .int .i64 pr, .int .u32 fr, .int .u32 to, .slice oA on oc, .slice (some ⟨db, dof, none⟩) dn dc]) := hid (by rw [← hWc]; exact Cb.out.far (p := ⟨wr.heap.size, 10, none⟩) (by have := Gw.out; show w.heap.size ≠ wr.heap.size; omega) _)
          have Oc : Hid (Only [wr.heap.size] w7 Wc) := hid (by rw [← hWc, ← hWb, ← hWa]; exact (((Only.refl [wr.heap.size] w7).setCell (p := ⟨wr.heap.size, 4, none⟩) (Or.inl (by simp)) _).setCell (p := ⟨wr.heap.size, 3, none⟩) (Or.inl (by simp)) _).setCell (p := ⟨wr.heap.size, 10, none⟩) (Or.inl (by simp)) _)
          have fa3 := Na.out.frozen 3; have na3 := Na.out.cell 3; have ca3 := Ca.out.cell 3; have ca10 := Ca.out.cell 10; have cb10 := Cb.out.cell 10; have fb10 := Nb.out.frozen 10; have nb10 := Nb.out.cell 10
          have y0 := Nc.out.cell 0; have y1 := Nc.out.cell 1; have y2 := Nc.out.cell 2; have y3 := Nc.out.cell 3; have y4 := Nc.out.cell 4; have y5 := Nc.out.cell 5; have y6 := Nc.out.cell 6; have y7 := Nc.out.cell 7; have y8 := Nc.out.cell 8; have y9 := Nc.out.cell 9; have y10 := Nc.out.cell 10
          have g3 : (a : Int) ≤ (a : Int) + (rs : Int) := by omega
          have g4 : (a : Int) + (rs : Int) ≤ (dc : Int) := by omega
          have g5 : ¬ (dc : Int) = (a : Int) := by omega
          have g6 : ((a : Int) + (rs : Int)).toNat - a = rs := by omega
          have htl : ((d.drop a).take rs).length = rs := by rw [List.length_take, List.length_drop, Hdn.out]; omega
          have HTl := hid htl
          obtain ⟨q, hq⟩ : ∃ q : Pk, q = ⟨sv, pid, false, false, (off + (a : Int)), lf, pr, fr, to, A7, c7, u, (some ⟨db, dof + a, none⟩), dc - a, (d.drop a).take rs⟩ := ⟨_, rfl⟩
          have HQq := hid hq
          have hcs : q.cs.toArray = #[.int .i64 sv, .int .i64 pid, .bool false, .bool false, .int .i64 (off + (a : Int)), .int .i64 lf, .int .i64 pr, .int .u32 fr, .int .u32 to, .slice A7 u.length c7, .slice (some ⟨db, dof + a, none⟩) rs (dc - a)] := by unfold Pk.cs; rw [hq]; simp only [htl]
          have HOne : Hid (RdS (Wc.alloc (.cells #[.int .i64 sv, .int .i64 pid, .bool false, .bool false, .int .i64 (off + (a : Int)), .int .i64 lf, .int .i64 pr, .int .u32 fr, .int .u32 to, .slice A7 u.length c7, .slice (some ⟨db, dof + a, none⟩) rs (dc - a)] 26)) (some ⟨Wc.heap.size, 0, none⟩) 1 11 q.cs) := hid (by rw [← hcs]; exact rdS_pk Wc q)
          have qa : Hid (Only [] Wc (Wc.alloc (.cells #[.int .i64 sv, .int .i64 pid, .bool false, .bool false, .int .i64 (off + (a : Int)), .int .i64 lf, .int .i64 pr, .int .u32 fr, .int .u32 to, .slice A7 u.length c7, .slice (some ⟨db, dof + a, none⟩) rs (dc - a)] 26))) := hid ((Only.refl [] Wc).alloc _)
          have HVa := hid (own_only_nil (own_only HVy.out Oc.out (fun i hi hm => by have h1 := (own_lt HV.out i hi).2; simp at hm; omega)) qa.out)
          have hMl : M.length ≤ 100000 := by have := HMl.out.1; omega
          have Qc := hid ((Only.fresh Qy.out Oc.out (fun i hi => .inr (by have := Gw.out; simp at hi; omega))).trans qa.out)
          have Kc := hid ((KK.of_one Oc.out Qy.out.size Ny.out (by have := Gw.out; omega) (by decide)).trans (KK.of_nil qa.out (Nat.le_trans Qy.out.size Oc.out.size)))
          have hsz6 : w.heap.size + 1 ≤ (Wc.alloc (.cells #[.int .i64 sv, .int .i64 pid, .bool false, .bool false, .int .i64 (off + (a : Int)), .int .i64 lf, .int .i64 pr, .int .u32 fr, .int .u32 to, .slice A7 u.length c7, .slice (some ⟨db, dof + a, none⟩) rs (dc - a)] 26)).heap.size := by have h1 := HB.out; have h2 := Gw.out; have h3 := qa.out.size; have h4 := Oc.out.size; have h5 := Ny.out.lt; omega
          have Ccq := hid (Cc.out.only qa.out (by simp))
          clear hq hcs htl
          go_wp2_with (at_builtin; refine wpList_appS _ rfl (.tmp 90) (.tmp 92) _ rfl elemPk (w.heap.size + 1) v M.length (pcs M) rfl HVa.out (some ⟨Wc.heap.size, 0, none⟩) 1 1 q.cs rfl HOne.out (by intro e; cases e) (.inr ⟨_, _, rfl⟩) (by omega) (by unfold maxLen; omega) hsz6 ?_)
          intro v9 w9 hv9 hg9 hb9
          have HV9 : Hid (w9.ownsRow (w.heap.size + 1) 26 11 v9 (M ++ [q]).length (pcs (M ++ [q]))) := hid (by rw [pcs_app, List.length_append]; simpa [pcs] using hv9)
          have K9 := hid (KK.of_grown (base := w.heap.size) HVa.out (by decide) (by omega) Qc.out.size hg9)
          have Q9 := hid (Qc.out.of_grown hg9 (fun i hi => .inr (by have := (own_lt HVa.out i hi).1; omega)))
          have C9 : Hid (Ob w9 w.heap.size 26 #[.int .i64 sv, .int .i64 pid, .bool false, .bool false, .int .i64 off, .int .i64 lf, .int .i64 pr, .int .u32 fr, .int .u32 to, .slice oA on oc, .slice (some ⟨db, dof, none⟩) dn dc]) := hid ((hg9.block _ Ccq.out.lt (fun e => by have := (own_lt HVa.out _ e.symm).1; omega)).trans Ccq.out)
          have HB9 : Hid (w.heap.size + 1 ≤ w9.heap.size) := hid (Nat.le_trans hsz6 hg9.size)
          have kk : Hid (KK w.heap.size w w9) := hid (KK.of_nil Q9.out (Nat.le_refl _))
          have HPD9 : Hid (PDs w.heap.size w9 (M ++ [q])) := hid (PDs.add ((HPy.out.keep Kc.out).keep K9.out) (by rw [HQq.out]; show DK _ _ A7 (u).length c7 u; exact (HUy.out.keep Kc.out).keep K9.out) (by rw [HQq.out]; show DK _ _ _ ((d.drop a).take rs).length _ ((d.drop a).take rs); rw [HTl.out]; exact ((((DK.of_arg HD.out (Nat.le_refl _) hdnc HCd.out HZd.out).keep kk.out).drop (m := a) (by omega)).take (m := rs) (by omega))))
          have hoffe : (off + (a : Int)) = off + ((dat M).length : Int) := by have := HDl.out.1; omega
          have hd2 : (d.drop a).length = dn - a := by rw [List.length_drop, Hdn.out]
          have HD9 : Hid ((a + rs < dn ∧ (dat (M ++ [q])).length = a + rs ∧ dat (M ++ [q]) ++ d.drop (a + rs) = d ∧ YInv mm (sq sv pid false false off lf pr fr to o d) (M ++ [q])) ∨ (a + rs = dn ∧ ∃ u, CpR o u ∧ PcR mm (sq sv pid false false off lf pr fr to o d) u 0 ((M ++ [q]).map Pk.key))) := hid (by
            refine .inr ⟨by omega, XInv.last (q := q) (d2 := d.drop a) HXv.out HDl.out.2.1 HOf.out (by rw [hd2]; omega) ?_⟩
            rw [HQq.out]
            show (⟨sv, pid, false, false, (off + (a : Int)), lf, pr, fr, to, none, 0, u, none, 0, (d.drop a).take rs⟩ : Pk) = ⟨sv, pid, false, false, off + ((dat M).length : Int), lf, pr, fr, to, none, 0, u, none, 0, d.drop a⟩
            rw [← hoffe, List.take_of_length_le (by rw [hd2]; omega)])
          clear hv9 hg9 hb9 hoffe hd2 HDl HXv HQq HOne HVa HVy HPy HUy Ny Cy Qy Na Nb Nc Ca Cb Cc Oc Qc Kc qa Ccq y0 y1 y2 y3 y4 y5 y6 y7 y8 y9 y10 fa3 na3 ca3 ca10 cb10 fb10 nb10 K9 kk HV HPD HDis
          go_wp2_with fail
          go_roundg f
          case rel => exact ⟨v9, M ++ [q], a + rs, rfl, by first | rfl | go_num, hid (by have := HGk.out; omega), hid (by omega), C9, HV9, HPD9, hid (.inr (by omega)), hid ⟨by rw [List.length_append]; show 8 * (M.length + 1) ≤ _; have h := HMl.out.2 (by omega); omega, fun h9 => by rw [List.length_append]; show 8 * (M.length + 1) ≤ _; have h := HMl.out.2 (by omega); omega⟩, HD9, Q9, HB9⟩
          case measure => omega
      have hfz : ¬ (rs : Int) ≤ (R : Int) := by omega
      obtain ⟨Nn, hNn⟩ : ∃ Nn : Nat, R / 8 * 8 = Nn := ⟨_, rfl⟩
      have hNz : (R : Int) / 8 * 8 = (Nn : Int) := by omega
      have hN8 : 8 ≤ Nn := by omega
      have hNR : Nn ≤ R := by omega
      have HN8 : Hid (Nn % 8 = 0) := hid (by omega)
      have hlast : (a : Int) + (Nn : Int) < (dn : Int) := by omega
      have hlast2 : a + Nn < dn := by omega
      have HNq : Hid (Nn = (mm - hl u.length) / 8 * 8) := hid (by omega)
      clear hNn
      cases mo with
      | true =>
        obtain ⟨Wa, hWa⟩ : ∃ Wa, w7.setCell ⟨wr.heap.size, 4, none⟩ (.int .i64 (off + (a : Int))) = Wa := ⟨_, rfl⟩
        obtain ⟨Wb, hWb⟩ : ∃ Wb, Wa.setCell ⟨wr.heap.size, 3, none⟩ (.bool true) = Wb := ⟨_, rfl⟩
        obtain ⟨Wc, hWc⟩ : ∃ Wc, Wb.setCell ⟨wr.heap.size, 10, none⟩ (.slice (some ⟨db, dof + a, none⟩) Nn (dc - a)) = Wc := ⟨_, rfl⟩
        have Na : Hid (Ob Wa wr.heap.size 26 #[.int .i64 sv, .int .i64 pid, .bool false, .bool true, .int .i64 (off + (a : Int)), .int .i64 lf, .int .i64 pr, .int .u32 fr, .int .u32 to, .slice A7 u.length c7, .slice (some ⟨db, dof, none⟩) dn dc]) := hid (by rw [← hWa]; exact Ny.out.set 4 _)
        have Nb : Hid (Ob Wb wr.heap.size 26 #[.int .i64 sv, .int .i64 pid, .bool false, .bool true, .int .i64 (off + (a : Int)), .int .i64 lf, .int .i64 pr, .int .u32 fr, .int .u32 to, .slice A7 u.length c7, .slice (some ⟨db, dof, none⟩) dn dc]) := hid (by rw [← hWb]; exact Na.out.set 3 _)
        have Nc : Hid (Ob Wc wr.heap.size 26 #[.int .i64 sv, .int .i64 pid, .bool false, .bool true, .int .i64 (off + (a : Int)), .int .i64 lf, .int .i64 pr, .int .u32 fr, .int .u32 to, .slice A7 u.length c7, .slice (some ⟨db, dof + a, none⟩) Nn (dc - a)]) := hid (by rw [← hWc]; exact Nb.out.set 10 _)
        have Ca : Hid (Ob Wa w.heap.size 26 #[.int .i64 sv, .int .i64 pid, .bool false, .bool true, .int .i64 off, .int .i64 lf, .int .i64 pr, .int .u32 fr, .int .u32 to, .slice oA on oc, .slice (some ⟨db, dof, none⟩) dn dc]) := hid (by rw [← hWa]; exact Cy.out.far (p := ⟨wr.heap.size, 4, none⟩) (by have := Gw.out; show w.heap.size ≠ wr.heap.size; omega) _)
        have Cb : Hid (Ob Wb w.heap.size 26 #[.int .i64 sv, .int .i64 pid, .bool false, .bool true, .int .i64 off, .int .i64 lf, .int .i64 pr, .int .u32 fr, .int .u32 to, .slice oA on oc, .slice (some ⟨db, dof, none⟩) dn dc]) := hid (by rw [← hWb]; exact Ca.out.far (p := ⟨wr.heap.size, 3, none⟩) (by have := Gw.out; show w.heap.size ≠ wr.heap.size; omega) _)
        have Cc : Hid (Ob Wc w.heap.size 26 #[.int .i64 sv, .int .i64 pid, .bool false, .bool true, .int .i64 off, .int .i64 lf, .int .i64 pr, .int .u32 fr, .int .u32 to, .slice oA on oc, .slice (some ⟨db, dof, none⟩) dn dc]) := hid (by rw [← hWc]; exact Cb.out.far (p := ⟨wr.heap.size, 10, none⟩) (by have := Gw.out; show w.heap.size ≠ wr.heap.size; omega) _)
        have Oc : Hid (Only [wr.heap.size] w7 Wc) := hid (by rw [← hWc, ← hWb, ← hWa]; exact (((Only.refl [wr.heap.size] w7).setCell (p := ⟨wr.heap.size, 4, none⟩) (Or.inl (by simp)) _).setCell (p := ⟨wr.heap.size, 3, none⟩) (Or.inl (by simp)) _).setCell (p := ⟨wr.heap.size, 10, none⟩) (Or.inl (by simp)) _)
        have fa3 := Na.out.frozen 3; have na3 := Na.out.cell 3; have ca3 := Ca.out.cell 3; have ca10 := Ca.out.cell 10; have cb10 := Cb.out.cell 10; have fb10 := Nb.out.frozen 10; have nb10 := Nb.out.cell 10
        have y0 := Nc.out.cell 0; have y1 := Nc.out.cell 1; have y2 := Nc.out.cell 2; have y3 := Nc.out.cell 3; have y4 := Nc.out.cell 4; have y5 := Nc.out.cell 5; have y6 := Nc.out.cell 6; have y7 := Nc.out.cell 7; have y8 := Nc.out.cell 8; have y9 := Nc.out.cell 9; have y10 := Nc.out.cell 10
        have g3 : (a : Int) ≤ (a : Int) + (Nn : Int) := by omega
        have g4 : (a : Int) + (Nn : Int) ≤ (dc : Int) := by omega
        have g5 : ¬ (dc : Int) = (a : Int) := by omega
        have g6 : ((a : Int) + (Nn : Int)).toNat - a = Nn := by omega
        have htl : ((d.drop a).take Nn).length = Nn := by rw [List.length_take, List.length_drop, Hdn.out]; omega
        have HTl := hid htl
        obtain ⟨q, hq⟩ : ∃ q : Pk, q = ⟨sv, pid, false, true, (off + (a : Int)), lf, pr, fr, to, A7, c7, u, (some ⟨db, dof + a, none⟩), dc - a, (d.drop a).take Nn⟩ := ⟨_, rfl⟩
        have HQq := hid hq
        have hcs : q.cs.toArray = #[.int .i64 sv, .int .i64 pid, .bool false, .bool true, .int .i64 (off + (a : Int)), .int .i64 lf, .int .i64 pr, .int .u32 fr, .int .u32 to, .slice A7 u.length c7, .slice (some ⟨db, dof + a, none⟩) Nn (dc - a)] := by unfold Pk.cs; rw [hq]; simp only [htl]
        have HOne : Hid (RdS (Wc.alloc (.cells #[.int .i64 sv, .int .i64 pid, .bool false, .bool true, .int .i64 (off + (a : Int)), .int .i64 lf, .int .i64 pr, .int .u32 fr, .int .u32 to, .slice A7 u.length c7, .slice (some ⟨db, dof + a, none⟩) Nn (dc - a)] 26)) (some ⟨Wc.heap.size, 0, none⟩) 1 11 q.cs) := hid (by rw [← hcs]; exact rdS_pk Wc q)
        have qa : Hid (Only [] Wc (Wc.alloc (.cells #[.int .i64 sv, .int .i64 pid, .bool false, .bool true, .int .i64 (off + (a : Int)), .int .i64 lf, .int .i64 pr, .int .u32 fr, .int .u32 to, .slice A7 u.length c7, .slice (some ⟨db, dof + a, none⟩) Nn (dc - a)] 26))) := hid ((Only.refl [] Wc).alloc _)
        have HVa := hid (own_only_nil (own_only HVy.out Oc.out (fun i hi hm => by have h1 := (own_lt HV.out i hi).2; simp at hm; omega)) qa.out)
        have hMl : M.length ≤ 100000 := by have := HMl.out.1; omega
        have Qc := hid ((Only.fresh Qy.out Oc.out (fun i hi => .inr (by have := Gw.out; simp at hi; omega))).trans qa.out)
        have Kc := hid ((KK.of_one Oc.out Qy.out.size Ny.out (by have := Gw.out; omega) (by decide)).trans (KK.of_nil qa.out (Nat.le_trans Qy.out.size Oc.out.size)))
        have hsz6 : w.heap.size + 1 ≤ (Wc.alloc (.cells #[.int .i64 sv, .int .i64 pid, .bool false, .bool true, .int .i64 (off + (a : Int)), .int .i64 lf, .int .i64 pr, .int .u32 fr, .int .u32 to, .slice A7 u.length c7, .slice (some ⟨db, dof + a, none⟩) Nn (dc - a)] 26)).heap.size := by have h1 := HB.out; have h2 := Gw.out; have h3 := qa.out.size; have h4 := Oc.out.size; have h5 := Ny.out.lt; omega
        have Ccq := hid (Cc.out.only qa.out (by simp))
        clear hq hcs htl
        go_wp2_with (at_builtin; refine wpList_appS _ rfl (.tmp 90) (.tmp 92) _ rfl elemPk (w.heap.size + 1) v M.length (pcs M) rfl HVa.out (some ⟨Wc.heap.size, 0, none⟩) 1 1 q.cs rfl HOne.out (by intro e; cases e) (.inr ⟨_, _, rfl⟩) (by omega) (by unfold maxLen; omega) hsz6 ?_)
        intro v9 w9 hv9 hg9 hb9
        have HV9 : Hid (w9.ownsRow (w.heap.size + 1) 26 11 v9 (M ++ [q]).length (pcs (M ++ [q]))) := hid (by rw [pcs_app, List.length_append]; simpa [pcs] using hv9)
        have K9 := hid (KK.of_grown (base := w.heap.size) HVa.out (by decide) (by omega) Qc.out.size hg9)
        have Q9 := hid (Qc.out.of_grown hg9 (fun i hi => .inr (by have := (own_lt HVa.out i hi).1; omega)))
        have C9 : Hid (Ob w9 w.heap.size 26 #[.int .i64 sv, .int .i64 pid, .bool false, .bool true, .int .i64 off, .int .i64 lf, .int .i64 pr, .int .u32 fr, .int .u32 to, .slice oA on oc, .slice (some ⟨db, dof, none⟩) dn dc]) := hid ((hg9.block _ Ccq.out.lt (fun e => by have := (own_lt HVa.out _ e.symm).1; omega)).trans Ccq.out)
        have HB9 : Hid (w.heap.size + 1 ≤ w9.heap.size) := hid (Nat.le_trans hsz6 hg9.size)
        have kk : Hid (KK w.heap.size w w9) := hid (KK.of_nil Q9.out (Nat.le_refl _))
        have HPD9 : Hid (PDs w.heap.size w9 (M ++ [q])) := hid (PDs.add ((HPy.out.keep Kc.out).keep K9.out) (by rw [HQq.out]; show DK _ _ A7 (u).length c7 u; exact (HUy.out.keep Kc.out).keep K9.out) (by rw [HQq.out]; show DK _ _ _ ((d.drop a).take Nn).length _ ((d.drop a).take Nn); rw [HTl.out]; exact ((((DK.of_arg HD.out (Nat.le_refl _) hdnc HCd.out HZd.out).keep kk.out).drop (m := a) (by omega)).take (m := Nn) (by omega))))
        have hoffe : (off + (a : Int)) = off + ((dat M).length : Int) := by have := HDl.out.1; omega
        have hd2 : (d.drop a).length = dn - a := by rw [List.length_drop, Hdn.out]
        have HD9 : Hid ((a + Nn < dn ∧ (dat (M ++ [q])).length = a + Nn ∧ dat (M ++ [q]) ++ d.drop (a + Nn) = d ∧ YInv mm (sq sv pid false true off lf pr fr to o d) (M ++ [q])) ∨ (a + Nn = dn ∧ ∃ u, CpR o u ∧ PcR mm (sq sv pid false true off lf pr fr to o d) u 0 ((M ++ [q]).map Pk.key))) := hid (by
          have h5 : (dat (M ++ [q])).length = a + Nn := by rw [dat_snoc, List.length_append, HDl.out.1, HQq.out]; show _ + ((d.drop a).take Nn).length = _; rw [HTl.out]
          refine .inl ⟨by omega, h5, ?_, YInv.of (fun u' hu' => XInv.step (q := q) (n := Nn) (d2 := d.drop a) HXv.out HDl.out.2.1 hu' (by exact HNq.out) (by omega) (by rw [hd2]; omega) ?_ (by rw [HQq.out]; exact HTl.out))⟩
          · rw [dat_snoc, HQq.out, List.append_assoc]
            show dat M ++ ((d.drop a).take Nn ++ d.drop (a + Nn)) = d
            rw [show d.drop (a + Nn) = (d.drop a).drop Nn from by rw [List.drop_drop], List.take_append_drop]
            exact HDl.out.2.1
          · rw [HQq.out]
            show (⟨sv, pid, false, true, (off + (a : Int)), lf, pr, fr, to, none, 0, u, none, 0, (d.drop a).take Nn⟩ : Pk) = ⟨sv, pid, false, true, off + ((dat M).length : Int), lf, pr, fr, to, none, 0, u, none, 0, (d.drop a).take Nn⟩
            rw [← hoffe])
        clear hv9 hg9 hb9 hoffe hd2 HDl HXv HQq HOne HVa HVy HPy HUy Ny Cy Qy Na Nb Nc Ca Cb Cc Oc Qc Kc qa Ccq y0 y1 y2 y3 y4 y5 y6 y7 y8 y9 y10 fa3 na3 ca3 ca10 cb10 fb10 nb10 K9 kk HV HPD HDis
        go_wp2_with fail
        go_roundg f
        case rel => exact ⟨v9, M ++ [q], a + Nn, rfl, by first | rfl | go_num, hid (by have := HGk.out; omega), hid (by omega), C9, HV9, HPD9, hid (.inl (by have := HA8.out; have := HN8.out; omega)), hid ⟨by rw [List.length_append]; show 8 * (M.length + 1) ≤ _; have h := HMl.out.2 (by omega); omega, fun h9 => by rw [List.length_append]; show 8 * (M.length + 1) ≤ _; have h := HMl.out.2 (by omega); omega⟩, HD9, Q9, HB9⟩
        case measure => omega
      | false =>
        obtain ⟨Wa, hWa⟩ : ∃ Wa, w7.setCell ⟨wr.heap.size, 4, none⟩ (.int .i64 (off + (a : Int))) = Wa := ⟨_, rfl⟩
        obtain ⟨Wb, hWb⟩ : ∃ Wb, Wa.setCell ⟨wr.heap.size, 3, none⟩ (.bool true) = Wb := ⟨_, rfl⟩
        obtain ⟨Wc, hWc⟩ : ∃ Wc, Wb.setCell ⟨wr.heap.size, 10, none⟩ (.slice (some ⟨db, dof + a, none⟩) Nn (dc - a)) = Wc := ⟨_, rfl⟩
        have Na : Hid (Ob Wa wr.heap.size 26 #[.int .i64 sv, .int .i64 pid, .bool false, .bool false, .int .i64 (off + (a : Int)), .int .i64 lf, .int .i64 pr, .int .u32 fr, .int .u32 to, .slice A7 u.length c7, .slice (some ⟨db, dof, none⟩) dn dc]) := hid (by rw [← hWa]; exact Ny.out.set 4 _)
        have Nb : Hid (Ob Wb wr.heap.size 26 #[.int .i64 sv, .int .i64 pid, .bool false, .bool true, .int .i64 (off + (a : Int)), .int .i64 lf, .int .i64 pr, .int .u32 fr, .int .u32 to, .slice A7 u.length c7, .slice (some ⟨db, dof, none⟩) dn dc]) := hid (by rw [← hWb]; exact Na.out.set 3 _)
        have Nc : Hid (Ob Wc wr.heap.size 26 #[.int .i64 sv, .int .i64 pid, .bool false, .bool true, .int .i64 (off + (a : Int)), .int .i64 lf, .int .i64 pr, .int .u32 fr, .int .u32 to, .slice A7 u.length c7, .slice (some ⟨db, dof + a, none⟩) Nn (dc - a)]) := hid (by rw [← hWc]; exact Nb.out.set 10 _)
        have Ca : Hid (Ob Wa w.heap.size 26 #[.int .i64 sv, .int .i64 pid, .bool false, .bool false, .int .i64 off, .int .i64 lf, .int .i64 pr, .int .u32 fr, .int .u32 to, .slice oA on oc, .slice (some ⟨db, dof, none⟩) dn dc]) := hid (by rw [← hWa]; exact Cy.out.far (p := ⟨wr.heap.size, 4, none⟩) (by have := Gw.out; show w.heap.size ≠ wr.heap.size; omega) _)
        have Cb : Hid (Ob Wb w.heap.size 26 #[.int .i64 sv, .int .i64 pid, .bool false, .bool false, .int .i64 off, .int .i64 lf, .int .i64 pr, .int .u32 fr, .int .u32 to, .slice oA on oc, .slice (some ⟨db, dof, none⟩) dn dc]) := hid (by rw [← hWb]; exact Ca.out.far (p := ⟨wr.heap.size, 3, none⟩) (by have := Gw.out; show w.heap.size ≠ wr.heap.size; omega) _)
        have Cc : Hid (Ob Wc w.heap.size 26 #[.int .i64 sv, .int .i64 pid, .bool false, .bool false, .int .i64 off, .int .i64 lf, .int .i64 pr, .int .u32 fr, .int .u32 to, .slice oA on oc, .slice (some ⟨db, dof, none⟩) dn dc]) := hid (by rw [← hWc]; exact Cb.out.far (p := ⟨wr.heap.size, 10, none⟩) (by have := Gw.out; show w.heap.size ≠ wr.heap.size; omega) _)
        have Oc : Hid (Only [wr.heap.size] w7 Wc) := hid (by rw [← hWc, ← hWb, ← hWa]; exact (((Only.refl [wr.heap.size] w7).setCell (p := ⟨wr.heap.size, 4, none⟩) (Or.inl (by simp)) _).setCell (p := ⟨wr.heap.size, 3, none⟩) (Or.inl (by simp)) _).setCell (p := ⟨wr.heap.size, 10, none⟩) (Or.inl (by simp)) _)
        have fa3 := Na.out.frozen 3; have na3 := Na.out.cell 3; have ca3 := Ca.out.cell 3; have ca10 := Ca.out.cell 10; have cb10 := Cb.out.cell 10; have fb10 := Nb.out.frozen 10; have nb10 := Nb.out.cell 10
        have y0 := Nc.out.cell 0; have y1 := Nc.out.cell 1; have y2 := Nc.out.cell 2; have y3 := Nc.out.cell 3; have y4 := Nc.out.cell 4; have y5 := Nc.out.cell 5; have y6 := Nc.out.cell 6; have y7 := Nc.out.cell 7; have y8 := Nc.out.cell 8; have y9 := Nc.out.cell 9; have y10 := Nc.out.cell 10
        have g3 : (a : Int) ≤ (a : Int) + (Nn : Int) := by omega
        have g4 : (a : Int) + (Nn : Int) ≤ (dc : Int) := by omega
        have g5 : ¬ (dc : Int) = (a : Int) := by omega
        have g6 : ((a : Int) + (Nn : Int)).toNat - a = Nn := by omega
        have htl : ((d.drop a).take Nn).length = Nn := by rw [List.length_take, List.length_drop, Hdn.out]; omega
        have HTl := hid htl
        obtain ⟨q, hq⟩ : ∃ q : Pk, q = ⟨sv, pid, false, true, (off + (a : Int)), lf, pr, fr, to, A7, c7, u, (some ⟨db, dof + a, none⟩), dc - a, (d.drop a).take Nn⟩ := ⟨_, rfl⟩
        have HQq := hid hq
        have hcs : q.cs.toArray = #[.int .i64 sv, .int .i64 pid, .bool false, .bool true, .int .i64 (off + (a : Int)), .int .i64 lf, .int .i64 pr, .int .u32 fr, .int .u32 to, .slice A7 u.length c7, .slice (some ⟨db, dof + a, none⟩) Nn (dc - a)] := by unfold Pk.cs; rw [hq]; simp only [htl]
        have HOne : Hid (RdS (Wc.alloc (.cells #[.int .i64 sv, .int .i64 pid, .bool false, .bool true, .int .i64 (off + (a : Int)), .int .i64 lf, .int .i64 pr, .int .u32 fr, .int .u32 to, .slice A7 u.length c7, .slice (some ⟨db, dof + a, none⟩) Nn (dc - a)] 26)) (some ⟨Wc.heap.size, 0, none⟩) 1 11 q.cs) := hid (by rw [← hcs]; exact rdS_pk Wc q)
        have qa : Hid (Only [] Wc (Wc.alloc (.cells #[.int .i64 sv, .int .i64 pid, .bool false, .bool true, .int .i64 (off + (a : Int)), .int .i64 lf, .int .i64 pr, .int .u32 fr, .int .u32 to, .slice A7 u.length c7, .slice (some ⟨db, dof + a, none⟩) Nn (dc - a)] 26))) := hid ((Only.refl [] Wc).alloc _)
        have HVa := hid (own_only_nil (own_only HVy.out Oc.out (fun i hi hm => by have h1 := (own_lt HV.out i hi).2; simp at hm; omega)) qa.out)
        have hMl : M.length ≤ 100000 := by have := HMl.out.1; omega
        have Qc := hid ((Only.fresh Qy.out Oc.out (fun i hi => .inr (by have := Gw.out; simp at hi; omega))).trans qa.out)
        have Kc := hid ((KK.of_one Oc.out Qy.out.size Ny.out (by have := Gw.out; omega) (by decide)).trans (KK.of_nil qa.out (Nat.le_trans Qy.out.size Oc.out.size)))
        have hsz6 : w.heap.size + 1 ≤ (Wc.alloc (.cells #[.int .i64 sv, .int .i64 pid, .bool false, .bool true, .int .i64 (off + (a : Int)), .int .i64 lf, .int .i64 pr, .int .u32 fr, .int .u32 to, .slice A7 u.length c7, .slice (some ⟨db, dof + a, none⟩) Nn (dc - a)] 26)).heap.size := by have h1 := HB.out; have h2 := Gw.out; have h3 := qa.out.size; have h4 := Oc.out.size; have h5 := Ny.out.lt; omega
        have Ccq := hid (Cc.out.only qa.out (by simp))
        clear hq hcs htl
        go_wp2_with (at_builtin; refine wpList_appS _ rfl (.tmp 90) (.tmp 92) _ rfl elemPk (w.heap.size + 1) v M.length (pcs M) rfl HVa.out (some ⟨Wc.heap.size, 0, none⟩) 1 1 q.cs rfl HOne.out (by intro e; cases e) (.inr ⟨_, _, rfl⟩) (by omega) (by unfold maxLen; omega) hsz6 ?_)
        intro v9 w9 hv9 hg9 hb9
        have HV9 : Hid (w9.ownsRow (w.heap.size + 1) 26 11 v9 (M ++ [q]).length (pcs (M ++ [q]))) := hid (by rw [pcs_app, List.length_append]; simpa [pcs] using hv9)
        have K9 := hid (KK.of_grown (base := w.heap.size) HVa.out (by decide) (by omega) Qc.out.size hg9)
        have Q9 := hid (Qc.out.of_grown hg9 (fun i hi => .inr (by have := (own_lt HVa.out i hi).1; omega)))
        have C9 : Hid (Ob w9 w.heap.size 26 #[.int .i64 sv, .int .i64 pid, .bool false, .bool false, .int .i64 off, .int .i64 lf, .int .i64 pr, .int .u32 fr, .int .u32 to, .slice oA on oc, .slice (some ⟨db, dof, none⟩) dn dc]) := hid ((hg9.block _ Ccq.out.lt (fun e => by have := (own_lt HVa.out _ e.symm).1; omega)).trans Ccq.out)
        have HB9 : Hid (w.heap.size + 1 ≤ w9.heap.size) := hid (Nat.le_trans hsz6 hg9.size)
        have kk : Hid (KK w.heap.size w w9) := hid (KK.of_nil Q9.out (Nat.le_refl _))
        have HPD9 : Hid (PDs w.heap.size w9 (M ++ [q])) := hid (PDs.add ((HPy.out.keep Kc.out).keep K9.out) (by rw [HQq.out]; show DK _ _ A7 (u).length c7 u; exact (HUy.out.keep Kc.out).keep K9.out) (by rw [HQq.out]; show DK _ _ _ ((d.drop a).take Nn).length _ ((d.drop a).take Nn); rw [HTl.out]; exact ((((DK.of_arg HD.out (Nat.le_refl _) hdnc HCd.out HZd.out).keep kk.out).drop (m := a) (by omega)).take (m := Nn) (by omega))))
        have hoffe : (off + (a : Int)) = off + ((dat M).length : Int) := by have := HDl.out.1; omega
        have hd2 : (d.drop a).length = dn - a := by rw [List.length_drop, Hdn.out]
        have HD9 : Hid ((a + Nn < dn ∧ (dat (M ++ [q])).length = a + Nn ∧ dat (M ++ [q]) ++ d.drop (a + Nn) = d ∧ YInv mm (sq sv pid false false off lf pr fr to o d) (M ++ [q])) ∨ (a + Nn = dn ∧ ∃ u, CpR o u ∧ PcR mm (sq sv pid false false off lf pr fr to o d) u 0 ((M ++ [q]).map Pk.key))) := hid (by
          have h5 : (dat (M ++ [q])).length = a + Nn := by rw [dat_snoc, List.length_append, HDl.out.1, HQq.out]; show _ + ((d.drop a).take Nn).length = _; rw [HTl.out]
          refine .inl ⟨by omega, h5, ?_, YInv.of (fun u' hu' => XInv.step (q := q) (n := Nn) (d2 := d.drop a) HXv.out HDl.out.2.1 hu' (by exact HNq.out) (by omega) (by rw [hd2]; omega) ?_ (by rw [HQq.out]; exact HTl.out))⟩
          · rw [dat_snoc, HQq.out, List.append_assoc]
            show dat M ++ ((d.drop a).take Nn ++ d.drop (a + Nn)) = d
            rw [show d.drop (a + Nn) = (d.drop a).drop Nn from by rw [List.drop_drop], List.take_append_drop]
            exact HDl.out.2.1
          · rw [HQq.out]
            show (⟨sv, pid, false, true, (off + (a : Int)), lf, pr, fr, to, none, 0, u, none, 0, (d.drop a).take Nn⟩ : Pk) = ⟨sv, pid, false, true, off + ((dat M).length : Int), lf, pr, fr, to, none, 0, u, none, 0, (d.drop a).take Nn⟩
            rw [← hoffe])
        clear hv9 hg9 hb9 hoffe hd2 HDl HXv HQq HOne HVa HVy HPy HUy Ny Cy Qy Na Nb Nc Ca Cb Cc Oc Qc Kc qa Ccq y0 y1 y2 y3 y4 y5 y6 y7 y8 y9 y10 fa3 na3 ca3 ca10 cb10 fb10 nb10 K9 kk HV HPD HDis
        go_wp2_with fail
        go_roundg f
        case rel => exact ⟨v9, M ++ [q], a + Nn, rfl, by first | rfl | go_num, hid (by have := HGk.out; omega), hid (by omega), C9, HV9, HPD9, hid (.inl (by have := HA8.out; have := HN8.out; omega)), hid ⟨by rw [List.length_append]; show 8 * (M.length + 1) ≤ _; have h := HMl.out.2 (by omega); omega, fun h9 => by rw [List.length_append]; show 8 * (M.length + 1) ≤ _; have h := HMl.out.2 (by omega); omega⟩, HD9, Q9, HB9⟩
        case measure => omega
end Go.Proofs.Ytngaolagifgfjaa.ip
/-
  Chapter 7 (frag): the law FragSplits, by a walk of its text. Conditions: none but those typed.
-/
namespace Go.Proofs.Ytngaolagifgfjaa.ip
set_option linter.unusedVariables false
set_option linter.unusedSimpArgs false
open Go.ChangeShapes Go.WideShapes Go.ChangeAt Go.RowKit Go.IntWalk Go.Lib
theorem CpR.len {l u : List Int} (h : CpR l u) : u.length ≤ l.length := by
  induction h with
  | nil => simp
  | z => simp
  | one r u _ ih => simp; omega
  | low a m r u h0 h1 h2 h3 _ ih => rw [List.length_drop] at ih; simp; omega
  | hi a m r u h0 h1 h2 h3 _ ih => rw [List.length_drop] at ih; simp [List.length_take]; omega
theorem opt_len {q : Pk} {u : List Int} (hu : u.length ≤ q.o.length) (j : Nat) : (opt q u j).length ≤ q.o.length := by
  unfold opt; split
  · exact Nat.le_refl _
  · exact hu
theorem PcR.len {m : Nat} {q : Pk} {u : List Int} {j : Nat} {L : List Pk} (h : PcR m q u j L) (hu : u.length ≤ q.o.length) : ∀ p ∈ L, p.o.length ≤ q.o.length ∧ p.d.length ≤ q.d.length := by
  induction h with
  | last j _ => intro p hp; rw [show p = pcL q u j from by simpa using hp]; exact ⟨opt_len hu j, by show (q.d.drop j).length ≤ _; rw [List.length_drop]; omega⟩
  | more j L _ _ ih => intro p hp; rcases List.mem_cons.1 hp with h1 | h1
                       · rw [h1]; exact ⟨opt_len hu j, by show ((q.d.drop j).take _).length ≤ _; rw [List.length_take, List.length_drop]; omega⟩
                       · exact ih p h1
theorem SpR.len {m e : Int} {q : Pk} {L : List Pk} (h : SpR m q e L) : ∀ p ∈ L, p.o.length ≤ q.o.length ∧ p.d.length ≤ q.d.length := by
  cases h with
  | arg => intro p hp; cases hp
  | chk => intro p hp; cases hp
  | fit => intro p hp; rw [show p = q.key from by simpa using hp]; exact ⟨Nat.le_refl _, Nat.le_refl _⟩
  | wh => intro p hp; cases hp
  | pcs u _ _ _ _ _ h4 h5 => exact h5.len h4.len
theorem key_len {M : List Pk} {a b : Nat} (h : ∀ p ∈ M.map Pk.key, p.o.length ≤ a ∧ p.d.length ≤ b) : ∀ p ∈ M, p.o.length ≤ a ∧ p.d.length ≤ b := fun p hp => h p.key (List.mem_map_of_mem hp)
theorem pk_drop (L : List Pk) (k : Nat) (h : k < L.length) : L.drop k = L.getD k pk0 :: L.drop (k + 1) := by
  rw [List.drop_eq_getElem_cons h, List.getD_eq_getElem?_getD, List.getElem?_eq_getElem h]; rfl
theorem bks_cons (p : Pk) (L : List Pk) : bks (p :: L) = (blk p.oA ++ blk p.dA) ++ bks L := rfl
theorem own_blk {A : Option Addr} {n c i : Nat} (h : (Value.slice A n c).ownBlock = some i) : i ∈ blk A := by
  cases A with
  | none => cases h
  | some a => have : a.block = i := by simpa [Value.ownBlock] using h
              simp [blk, this]
theorem PDo.only {base : Nat} {w w' : World} {L : List Pk} {S : List Nat} (h : PDo base w L) (o : Only S w w') (hs : ∀ i ∈ bks L, i ∉ S) : PDo base w' L := fun p hp =>
  ⟨(h p hp).1.only o (fun i hi hm => hs i (List.mem_flatMap.2 ⟨p, hp, List.mem_append_left _ (own_blk hi)⟩) hm), (h p hp).2.only o (fun i hi hm => hs i (List.mem_flatMap.2 ⟨p, hp, List.mem_append_right _ (own_blk hi)⟩) hm)⟩
theorem own_unlikeT {w : World} {e1 e2 : TypeId} (hne : e1 ≠ e2) {b1 b2 sz1 sz2 n1 n2 : Nat} {v1 v2 : Value} {x1 x2 : List Value} (h1 : w.ownsRow b1 e1 sz1 v1 n1 x1) (h2 : w.ownsRow b2 e2 sz2 v2 n2 x2) (g : Nat) (g1 : v1.ownBlock = some g) : v2.ownBlock ≠ some g := by
  intro g2
  rcases h1.2 with ⟨hv, _⟩ | ⟨p, cap, cur, hv, _, hh, _⟩
  · rw [hv] at g1; cases g1
  · rcases h2.2 with ⟨hv2, _⟩ | ⟨p2, cap2, cur2, hv2, _, hh2, _⟩
    · rw [hv2] at g2; cases g2
    · rw [hv] at g1; rw [hv2] at g2
      have e1 : p = g := by simpa [Value.ownBlock] using g1
      have e2 : p2 = g := by simpa [Value.ownBlock] using g2
      subst e1; subst e2
      rw [hh] at hh2
      injection hh2 with hh2
      injection hh2 with _ h3
      exact hne h3
set_option maxRecDepth 100000 in
set_option maxHeartbeats 16000000 in
theorem splits (w : World) (sv pid : Int) (wh mo : Bool) (off lf pr fr to : Int) (oA : Option Addr) (on oc : Nat) (dA : Option Addr) (dn dc : Nat) (o d : List Int) (m : Int) (ho : Rd .u8 w oA on o) (hoc : oA = none → oc = 0) (hnc : on ≤ oc) (hcm : oc ≤ maxLen) (hd : Rd .u8 w dA dn d) (hdc : dA = none → dc = 0) (hdnc : dn ≤ dc) (hdcm : dc ≤ maxLen) :
    Calls Try.prog 3 #[.agg #[.int .i64 sv, .int .i64 pid, .bool wh, .bool mo, .int .i64 off, .int .i64 lf, .int .i64 pr, .int .u32 fr, .int .u32 to, .slice oA on oc, .slice dA dn dc], .int .i64 m] w fun x w' => x = .returned (.bool true) ∧ Only [] w w' := by
  have Hon := hid ho.len; have Hdn := hid hd.len
  have HL171 : Hid ((d ++ [(171 : Int)]).length = dn + 1) := hid (by simp [hd.len])
  obtain ⟨W0, hW0⟩ : ∃ W0, w.alloc (.cells #[.int .i64 sv, .int .i64 pid, .bool wh, .bool mo, .int .i64 off, .int .i64 lf, .int .i64 pr, .int .u32 fr, .int .u32 to, .slice oA on oc, .slice dA dn dc] 26) = W0 := ⟨_, rfl⟩
  have C0 : Hid (Ob W0 w.heap.size 26 #[.int .i64 sv, .int .i64 pid, .bool wh, .bool mo, .int .i64 off, .int .i64 lf, .int .i64 pr, .int .u32 fr, .int .u32 to, .slice oA on oc, .slice dA dn dc]) := hid (by rw [← hW0]; exact Ob.new _ _ _)
  have Q0 : Hid (Only [] w W0) := hid (by rw [← hW0]; exact (Only.refl [] w).alloc _)
  have HO := hid (ho.only_nil Q0.out); have HD := hid (hd.only_nil Q0.out); have HCo := hid hcm; have HCd := hid hdcm; have HZo := hid hoc; have HZd := hid hdc
  have k0 := C0.out.cell 0; have k1 := C0.out.cell 1; have k2 := C0.out.cell 2; have k3 := C0.out.cell 3; have k4 := C0.out.cell 4; have k5 := C0.out.cell 5; have k6 := C0.out.cell 6; have k7 := C0.out.cell 7; have k8 := C0.out.cell 8; have k9 := C0.out.cell 9; have k10 := C0.out.cell 10
  clear ho hd hcm hdcm hoc hdc
  go_enter Try.func3, Try.ntmps3
  go_wp2_with fail
  refine (flong1 W0 sv pid wh mo off lf pr fr to oA on oc dA dn dc).mono ?_
  rintro x w1 ⟨q, rfl, o1, hq⟩
  have Q1 := hid o1
  have C1 := hid (C0.out.only o1 (by simp))
  have HQ := hid hq
  clear k0 k1 k2 k3 k4 k5 k6 k7 k8 k9 k10
  clear o1 hq hW0
  cases q with
  | true =>
    go_wp2_with fail
    go_ret
    exact ⟨rfl, Q0.out.trans Q1.out⟩
  | false =>
    have hdn6 := (HQ.out rfl).1
    have hon6 := (HQ.out rfl).2
    have k10 := C1.out.cell 10
    go_wp2_with fail
    clear k10
    refine (hlp.roomy w1 dA dn dc d (HD.out.only_nil Q1.out) HZd.out (by omega)).mono ?_
    rintro x w2 ⟨g, cap, rfl, hv2, o2⟩
    have V2 := hid hv2
    have hcap := hv2.len
    have Q2 := hid (Q1.out.trans o2)
    have C2 := hid (C1.out.only o2 (by simp))
    have hc1 : dn + 1 ≤ cap := hcap.2.1
    have HCap := hid hcap.2.2
    have HG : Hid (w1.heap.size ≤ g ∧ g < w2.heap.size) := hid (hv2.lt g rfl)
    have HS1 := hid Q1.out.size; have HS2 := hid o2.size
    clear hcap hv2 o2
    obtain ⟨W3, hW3⟩ : ∃ W3, w2.alloc (.cells #[.int .i64 sv, .int .i64 pid, .bool wh, .bool mo, .int .i64 off, .int .i64 lf, .int .i64 pr, .int .u32 fr, .int .u32 to, .slice oA on oc, .slice dA dn dc] 26) = W3 := ⟨_, rfl⟩
    have N3 : Hid (Ob W3 w2.heap.size 26 #[.int .i64 sv, .int .i64 pid, .bool wh, .bool mo, .int .i64 off, .int .i64 lf, .int .i64 pr, .int .u32 fr, .int .u32 to, .slice oA on oc, .slice dA dn dc]) := hid (by rw [← hW3]; exact Ob.new _ _ _)
    have O3 : Hid (Only [] w2 W3) := hid (by rw [← hW3]; exact (Only.refl [] w2).alloc _)
    have C3 := hid (C2.out.only O3.out (by simp))
    obtain ⟨W4, hW4⟩ : ∃ W4, W3.setCell ⟨w2.heap.size, 10, none⟩ (.slice (some ⟨g, 0, none⟩) dn cap) = W4 := ⟨_, rfl⟩
    have N4 : Hid (Ob W4 w2.heap.size 26 #[.int .i64 sv, .int .i64 pid, .bool wh, .bool mo, .int .i64 off, .int .i64 lf, .int .i64 pr, .int .u32 fr, .int .u32 to, .slice oA on oc, .slice (some ⟨g, 0, none⟩) dn cap]) := hid (by rw [← hW4]; exact N3.out.set 10 _)
    have O4s : Hid (Only [w2.heap.size] W3 W4) := hid (by rw [← hW4]; exact (Only.refl _ W3).setCell (p := ⟨w2.heap.size, 10, none⟩) (Or.inl (by simp)) _)
    have O4 : Hid (Only [] w2 W4) := hid (Only.fresh O3.out O4s.out (fun i hi => .inr (by rw [show i = w2.heap.size from by simpa using hi]; exact Nat.le_refl _)))
    have C4 := hid (C2.out.only O4.out (by simp))
    have C44 := C4
    have V4 := hid (V2.out.only_nil O4.out)
    have Q4 := hid (Q2.out.trans O4.out)
    have k0 := C2.out.cell 0; have k1 := C2.out.cell 1; have k2 := C2.out.cell 2; have k3 := C2.out.cell 3; have k4 := C2.out.cell 4; have k5 := C2.out.cell 5; have k6 := C2.out.cell 6; have k7 := C2.out.cell 7; have k8 := C2.out.cell 8; have k9 := C2.out.cell 9; have k10 := C2.out.cell 10
    have y10 := C3.out.cell 10
    have f10 := N3.out.frozen 10
    have m10 := N3.out.cell 10
    have n0 := N4.out.cell 0; have n1 := N4.out.cell 1; have n2 := N4.out.cell 2; have n3 := N4.out.cell 3; have n4 := N4.out.cell 4; have n5 := N4.out.cell 5; have n6 := N4.out.cell 6; have n7 := N4.out.cell 7; have n8 := N4.out.cell 8; have n9 := N4.out.cell 9; have n10 := N4.out.cell 10
    have hcz : (dn : Int) ≤ (cap : Int) := by omega
    have hcz0 : ¬ (cap : Int) = 0 := by omega
    go_wp2_with fail
    have HRd4 : Hid (Rd .u8 W4 (some ⟨g, 0, none⟩) dn d) := hid (by
      have h9 := (V4.out.pre (m := dn) (by omega)).rd
      rw [List.take_left' Hdn.out] at h9
      exact h9)
    refine (split2 W4 sv pid wh mo off lf pr fr to oA on oc (some ⟨g, 0, none⟩) dn cap o d m (HO.out.only_nil Q4.out) HZo.out hnc HCo.out (by omega) HRd4.out (by intro e; cases e) (by omega) HCap.out (by omega)).mono ?_
    rintro x w5 ⟨v5, e, M, rfl, hsp, hrow, hpd, o5⟩
    have HSp := hid hsp; have HRow := hid hrow; have HPD := hid hpd; have Q5 := hid (Q4.out.trans o5); have O5 := hid o5
    have C5 := hid (C4.out.only o5 (by simp))
    clear k0 k1 k2 k3 k4 k5 k6 k7 k8 k9 k10 n0 n1 n2 n3 n4 n5 n6 n7 n8 n9 n10
    clear y10 f10 m10 hW3 hW4 hsp hrow hpd o5 N3 N4 C3 O3 O4s HRd4
    have k0 := C5.out.cell 0; have k1 := C5.out.cell 1; have k2 := C5.out.cell 2; have k3 := C5.out.cell 3; have k4 := C5.out.cell 4; have k5 := C5.out.cell 5; have k6 := C5.out.cell 6; have k7 := C5.out.cell 7; have k8 := C5.out.cell 8; have k9 := C5.out.cell 9; have k10 := C5.out.cell 10
    go_wp2_with fail
    refine (dsplit1 w5 sv pid wh mo off lf pr fr to oA on oc dA dn dc o d m (HO.out.only_nil Q5.out) HZo.out hnc HCo.out (by omega) (HD.out.only_nil Q5.out) HZd.out hdnc HCd.out (by omega)).mono ?_
    rintro x w6 ⟨v6, e', M', rfl, hsp, hrow, hpd, o6⟩
    obtain ⟨he, hkey⟩ := HSp.out.uniq hsp
    subst he
    have HKey := hid hkey
    have Q6 := hid (Q5.out.trans o6); have O6 := hid (O5.out.trans o6)
    have C6 := hid (C5.out.only o6 (by simp))
    have HLen : Hid (∀ p ∈ M, p.o.length ≤ on ∧ p.d.length ≤ dn) := hid (by have h9 := key_len HSp.out.len; rw [show (sq sv pid wh mo off lf pr fr to o d).o.length = on from Hon.out, show (sq sv pid wh mo off lf pr fr to o d).d.length = dn from Hdn.out] at h9; exact h9)
    have HLen' : Hid (∀ p ∈ M', p.o.length ≤ on ∧ p.d.length ≤ dn) := hid (by have h9 := key_len hsp.len; rw [show (sq sv pid wh mo off lf pr fr to o d).o.length = on from Hon.out, show (sq sv pid wh mo off lf pr fr to o d).d.length = dn from Hdn.out] at h9; exact h9)
    have HRow6 := hid (own_only_nil HRow.out o6)
    have HPD6 : Hid (PDq W4.heap.size w6 M) := hid (HPD.out.keep (KK.of_nil o6 O5.out.size))
    obtain ⟨A5, c5, ev5, hnc5, hcm5, _, hrd5, hblk5, _⟩ := RdS.of_own HRow6.out (pcs_one _)
    obtain ⟨A6, c6, ev6, _, _, _, hrd6, hblk6, _⟩ := RdS.of_own hrow (pcs_one _)
    subst ev5 ev6
    obtain ⟨N, hN⟩ : ∃ N, M.length = N := ⟨_, rfl⟩
    have HN := hid hN
    have hN' : M'.length = N := by have h9 := congrArg List.length hkey; simp only [List.length_map] at h9; omega
    have HLs := lists0 w6 A5 A6 M M' c5 c6 hrd5 hrd6 (fun b off h => (hblk5 b off h).1) (fun b off h => (hblk6 b off h).1) hkey (fun p hp => ⟨(HPD6.out.1 p hp).1.rd, (HPD6.out.1 p hp).2.rd, by have := (HLen.out p hp).1; omega, by have := (HLen.out p hp).2; omega⟩) (fun p hp => ⟨(hpd p hp).1.rd, (hpd p hp).2.rd, by have := (HLen'.out p hp).1; omega, by have := (HLen'.out p hp).2; omega⟩) (by unfold maxLen at hcm5; omega)
    rw [hN, hN'] at HLs
    have HLs := hid HLs
    have HNb : Hid (N ≤ 9223372036854775807) := hid (by unfold maxLen at hcm5; omega)
    rw [hN] at HRow6
    rw [hN, hN']
    clear k0 k1 k2 k3 k4 k5 k6 k7 k8 k9 k10
    clear hsp hrow hpd o6 hkey hnc5 hcm5 hrd5 hblk5 hrd6 hblk6 hN hN' HRow HPD C0 C1 C2 C4 C5
    go_wp2_with fail
    refine HLs.out.mono ?_
    rintro x w7 ⟨rfl, o7⟩
    have Q7 := hid (Q6.out.trans o7); have O7 := hid (O6.out.trans o7)
    have C7 := hid (C6.out.only o7 (by simp))
    have V7 := hid (V4.out.only_nil O7.out)
    have hs67 := o7.size
    have HRow7 := hid (own_only_nil HRow6.out o7)
    have HPD7 : Hid (PDq W4.heap.size w7 M) := hid (HPD6.out.keep (KK.of_nil o7 O6.out.size))
    clear o7 HLs HRow6 HPD6 C6 hs67
    have k10 := C7.out.cell 10
    go_wp2_with fail
    refine (hlp.stands w7 (some ⟨g, 0, none⟩) dA dn cap dc d (by have h9 := V7.out.rd; exact h9) hc1 (HD.out.only_nil Q7.out) (by omega)).mono ?_
    rintro x w8 ⟨rfl, nq, hw8⟩
    have o8 : Only [] w7 w8 := by rw [hw8]; exact (Only.refl [] _).drewN nq
    have Q8 := hid (Q7.out.trans o8); have O8 := hid (O7.out.trans o8)
    have C8 := hid (C7.out.only o8 (by simp))
    have HRow8 := hid (own_only_nil HRow7.out o8)
    have HPD8 : Hid (PDq W4.heap.size w8 M) := hid (HPD7.out.keep (KK.of_nil o8 O7.out.size))
    clear o8 hw8 HRow7 HPD7 C7 k10
    go_wp2_with fail
    go_loopw [11] (fun i wr => ∃ (k : Nat), i = .int .i64 k ∧ k ≤ N ∧ Hid (Only [] W4 wr) ∧ Hid (wr.ownsRow W4.heap.size 26 11 (.slice A5 N c5) N (pcs M)) ∧ Hid (PDo W4.heap.size wr (M.drop k))) (fun i _ => N - (RowKit.intOf i).toNat)
    case atStart => exact ⟨0, rfl, by omega, O8, HRow8, hid (by simpa using HPD8.out.1)⟩
    case round =>
      obtain ⟨k, rfl, hk, HO4, HRw, HPd⟩ := hrel
      by_cases hlt : k < N
      · have hkL : k < M.length := by rw [HN.out]; exact hlt
        obtain ⟨A9, c9, ev9, _, _, _, hrd9, hblk9, _⟩ := RdS.of_own HRw.out (pcs_one _)
        injection ev9 with e9 _ e9'
        subst e9 e9'
        obtain ⟨b, bo, rfl, hb, hcell⟩ := RowP.at (w := wr) (A := A5) (L := M) (by have h9 := hrd9; rw [← HN.out] at h9; exact h9) k hkL
        obtain rfl : bo = 0 := (hblk9 b bo rfl).1
        simp only [Nat.zero_add] at hcell
        have hdr := pk_drop M k hkL
        have hnd : (bks (M.drop k)).Nodup := by
          have h9 := HPD8.out.2
          have h8 : bks M = bks (M.take k) ++ bks (M.drop k) := by unfold bks; rw [← List.flatMap_append, List.take_append_drop]
          rw [h8, List.nodup_append] at h9
          exact h9.2.1
        have hpd := HPd.out
        have hlen := HLen.out _ (pk_mem M k hkL)
        generalize M.getD k pk0 = p at *
        obtain ⟨psv, ppid, pwh, pmo, poff, plf, ppr, pfr, pto, poA, poc, po, pdA, pdc, pd⟩ := p
        rw [hdr] at hnd hpd
        rw [bks_cons, List.nodup_append, List.nodup_append] at hnd
        have HNd := hid hnd
        have d9 : wr.cell? ⟨b, k * 11 + 9, none⟩ = some (.slice poA po.length poc) := hcell 9 _ rfl
        have d10 : wr.cell? ⟨b, k * 11 + 10, none⟩ = some (.slice pdA pd.length pdc) := hcell 10 _ rfl
        have HPo := hid (hpd _ List.mem_cons_self).1
        have HPd1 := hid (hpd _ List.mem_cons_self).2
        have HRest : Hid (PDo W4.heap.size wr (M.drop (k + 1))) := hid (fun x hx => hpd x (List.mem_cons_of_mem _ hx))
        have hlo := hlen.1; have hld := hlen.2
        have hkb : k + 1 ≤ 9223372036854775807 := by have h9 := HNb.out; omega
        clear hcell hdr hnd hpd hlen hrd9 hblk9 hkL HPd
        dsimp only at hlo hld
        go_wp2_with fail
        refine (hlp.spoilO wr W4.heap.size (.slice pdA pd.length pdc) pd HPd1.out HO4.out.size (by omega)).mono ?_
        rintro x w9 ⟨rfl, o9⟩
        have HPo9 : Hid (Own .u8 5 w9 W4.heap.size (.slice poA po.length poc) po) := hid (HPo.out.only o9 (fun i hi hm => by
          have h2 : (Value.slice pdA pd.length pdc).ownBlock = some i := by simpa using hm
          exact HNd.out.1.2.2 i (own_blk hi) i (own_blk h2) rfl))
        have HRest9 : Hid (PDo W4.heap.size w9 (M.drop (k + 1))) := hid (HRest.out.only o9 (fun i hi hm => by
          have h2 : (Value.slice pdA pd.length pdc).ownBlock = some i := by simpa using hm
          exact HNd.out.2.2 i (List.mem_append_right _ (own_blk h2)) i hi rfl))
        have HRw9 := hid (own_only HRw.out o9 (fun i hi hm => by
          have h2 : (Value.slice pdA pd.length pdc).ownBlock = some i := by simpa using hm
          exact own_unlikeT (by decide) HRw.out HPd1.out.1 i hi h2))
        have HO49 : Hid (Only [] W4 w9) := hid (Only.fresh HO4.out o9 (fun i hi => .inr (HPd1.out.lt i (by simpa using hi)).1))
        have g9 : w9.cell? ⟨b, k * 11 + 9, none⟩ = some (.slice poA po.length poc) := by
          rw [← d9]
          refine World.cell?_of_block (o9.block b hb (fun hm => ?_))
          have h2 : (Value.slice pdA pd.length pdc).ownBlock = some b := by simpa using hm
          exact own_unlikeT (by decide) HRw.out HPd1.out.1 b rfl h2
        clear o9 d9 d10 HO4 HRw HRest HPo HPd1
        go_wp2_with fail
        refine (hlp.spoilO w9 W4.heap.size (.slice poA po.length poc) po HPo9.out HO49.out.size (by omega)).mono ?_
        rintro x w10 ⟨rfl, o10⟩
        have HRest10 : Hid (PDo W4.heap.size w10 (M.drop (k + 1))) := hid (HRest9.out.only o10 (fun i hi hm => by
          have h2 : (Value.slice poA po.length poc).ownBlock = some i := by simpa using hm
          exact HNd.out.2.2 i (List.mem_append_left _ (own_blk h2)) i hi rfl))
        have HRw10 := hid (own_only HRw9.out o10 (fun i hi hm => by
          have h2 : (Value.slice poA po.length poc).ownBlock = some i := by simpa using hm
          exact own_unlikeT (by decide) HRw9.out HPo9.out.1 i hi h2))
        have HO410 : Hid (Only [] W4 w10) := hid (Only.fresh HO49.out o10 (fun i hi => .inr (HPo9.out.lt i (by simpa using hi)).1))
        clear o10 g9 HO49 HRw9 HRest9 HPo9
        go_wp2_with fail
        go_roundw
        case rel => exact ⟨k + 1, by first | rfl | go_num, by omega, HO410, HRw10, HRest10⟩
        case measure => simp [RowKit.intOf]; omega
      · have hkn : k = N := by omega
        have QW := hid (Q4.out.trans HO4.out)
        have C9 := hid (C44.out.only HO4.out (by simp))
        have k10 : wr.cell? ⟨w.heap.size, 10, none⟩ = some (.slice dA dn dc) := C9.out.cell 10
        have V9 := hid (V4.out.only_nil HO4.out)
        clear HRw HPd
        go_wp2_with fail
        refine (hlp.stands wr (some ⟨g, 0, none⟩) dA dn cap dc d (by have h9 := V9.out.rd; exact h9) hc1 (HD.out.only_nil QW.out) (by omega)).mono ?_
        rintro x w8 ⟨rfl, nq, hw8⟩
        have o8 : Only [] wr w8 := by rw [hw8]; exact (Only.refl [] _).drewN nq
        have Q8 := hid (QW.out.trans o8)
        clear o8 hw8 k10
        go_wp2_with fail
        refine (ev.known _).mono ?_
        rintro x w9 ⟨rfl, o9⟩
        have Q9 := hid (Q8.out.trans o9); clear o9
        go_wp2_with fail
        go_ret
        exact ⟨rfl, Q0.out.trans Q9.out⟩
end Go.Proofs.Ytngaolagifgfjaa.ip
