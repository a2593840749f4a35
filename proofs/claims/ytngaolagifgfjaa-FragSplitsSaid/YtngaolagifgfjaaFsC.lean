/-
  Chapter 7 (frag): Split of the code, by a walk of its text. Conditions: none but those typed.
-/
import Derived.Test.YtngaolagifgfjaaFsB
import Derived.Test.YtngaolagifgfjaaFsK
import Derived.Deep.LoopGhost
namespace Go.Proofs.Ytngaolagifgfjaa.ip
set_option linter.unusedVariables false
set_option linter.unusedSimpArgs false
open Go.ChangeShapes Go.WideShapes Go.ChangeAt Go.RowKit Go.IntWalk Go.Lib
theorem Same.of_onlyT {S : List Nat} {g : Nat} {w w' : World} (h : Only S w w') (hg : g < w.heap.size) (hn : g ∉ S) : Same g w w' := h.block g hg hn
set_option maxRecDepth 100000 in
set_option maxHeartbeats 16000000 in
theorem split2 (w : World) (sv pid : Int) (wh mo : Bool) (off lf pr fr to : Int) (oA : Option Addr) (on oc : Nat) (dA : Option Addr) (dn dc : Nat) (o d : List Int) (m : Int) (ho : Rd .u8 w oA on o) (hoc : oA = none → oc = 0) (hnc : on ≤ oc) (hcm : oc ≤ maxLen) (hn : on ≤ 100000) (hd : Rd .u8 w dA dn d) (hdc : dA = none → dc = 0) (hdnc : dn ≤ dc) (hdcm : dc ≤ maxLen) (hdn : dn ≤ 100000) :
    Calls Try.prog 13 #[.agg #[.int .i64 sv, .int .i64 pid, .bool wh, .bool mo, .int .i64 off, .int .i64 lf, .int .i64 pr, .int .u32 fr, .int .u32 to, .slice oA on oc, .slice dA dn dc], .int .i64 m] w (SplX m (sq sv pid wh mo off lf pr fr to o d) w) := by
  have Hon := hid ho.len; have Hdn := hid hd.len
  obtain ⟨W0, hW0⟩ : ∃ W0, w.alloc (.cells #[.int .i64 sv, .int .i64 pid, .bool wh, .bool mo, .int .i64 off, .int .i64 lf, .int .i64 pr, .int .u32 fr, .int .u32 to, .slice oA on oc, .slice dA dn dc] 26) = W0 := ⟨_, rfl⟩
  have C0 : Hid (Ob W0 w.heap.size 26 #[.int .i64 sv, .int .i64 pid, .bool wh, .bool mo, .int .i64 off, .int .i64 lf, .int .i64 pr, .int .u32 fr, .int .u32 to, .slice oA on oc, .slice dA dn dc]) := hid (by rw [← hW0]; exact Ob.new _ _ _)
  have Q0 : Hid (Only [] w W0) := hid (by rw [← hW0]; exact (Only.refl [] w).alloc _)
  have HO := hid ho; have HD := hid hd; have HCo := hid hcm; have HCd := hid hdcm; have HZo := hid hoc; have HZd := hid hdc
  have k0 := C0.out.cell 0; have k1 := C0.out.cell 1; have k2 := C0.out.cell 2; have k3 := C0.out.cell 3; have k4 := C0.out.cell 4; have k5 := C0.out.cell 5; have k6 := C0.out.cell 6; have k7 := C0.out.cell 7; have k8 := C0.out.cell 8; have k9 := C0.out.cell 9; have k10 := C0.out.cell 10
  clear ho hd hcm hdcm hoc hdc
  go_enter Try.func13, Try.ntmps13
  by_cases m1 : m < 68
  case pos =>
    go_wp2_with fail
    go_ret2
    exact ⟨.slice none 0 0, 1, [], rfl, SpR.arg (.inl m1), World.ownsRow_nil _ _ _ _, (PDq.nil _ _), Q0.out⟩
  by_cases m2 : 65535 < m
  case pos =>
    go_wp2_with fail
    go_ret2
    exact ⟨.slice none 0 0, 1, [], rfl, SpR.arg (.inr m2), World.ownsRow_nil _ _ _ _, (PDq.nil _ _), Q0.out⟩
  have HM : Hid (¬ (m < 68 ∨ 65535 < m)) := hid (by omega)
  by_cases hck : chk sv pid off lf pr o dn = 0
  case neg =>
    go_wp2_with fail
    refine (encE W0 sv pid off lf pr wh mo fr to oA on oc dA dn dc o (HO.out.only_nil Q0.out) hnc HCo.out hn hdn hck).mono ?_
    rintro x w2 ⟨rfl, o2⟩
    have Q2 := hid (Q0.out.trans o2)
    obtain ⟨e, he⟩ : ∃ e, chk sv pid off lf pr o dn = e := ⟨_, rfl⟩
    rw [he] at hck
    rw [he]
    have hckb : (e != 0) = true := by simpa using hck
    have HE := hid he
    clear k0 k1 k2 k3 k4 k5 k6 k7 k8 k9 k10 he o2
    go_wp2_with fail
    go_ret2
    exact ⟨.slice none 0 0, e, [], rfl, SpR.chk e HM.out (by show chk sv pid off lf pr o d.length = e; rw [Hdn.out]; exact HE.out) hck, World.ownsRow_nil _ _ _ _, (PDq.nil _ _), Q2.out⟩
  go_wp2_with fail
  refine (enc1 W0 sv pid off lf pr wh mo fr to oA on oc dA dn dc o d (HO.out.only_nil Q0.out) HZo.out hnc HCo.out hn (HD.out.only_nil Q0.out) HZd.out hdn hck).mono ?_
  rintro x w2 ⟨vb, rfl, _, o2⟩
  have HCk := hid hck
  obtain ⟨hN, h40, hok, hll⟩ := chk0 hck
  have HOf : Hid (Ofs o true) := hid (by have h9 := ofs_okO o; rwa [hok] at h9)
  have hon40 : on ≤ 40 := by rw [← Hon.out]; exact h40
  have hlb := hl_bd on
  have HLL : Hid ((hl on : Int) + off + dn ≤ 65535) := hid (by have h9 := hll; rwa [Hon.out] at h9)
  have HNu := hid hN
  have Q2 := hid (Q0.out.trans o2)
  have C2 := hid (C0.out.only o2 (by simp))
  have HW2 : Hid (w.heap.size < w2.heap.size) := hid C2.out.lt
  clear k0 k1 k2 k3 k4 k5 k6 k7 k8 k9 k10 o2 hck hN h40 hok hll hW0
  have k0 := C2.out.cell 0; have k1 := C2.out.cell 1; have k2 := C2.out.cell 2; have k3 := C2.out.cell 3; have k4 := C2.out.cell 4; have k5 := C2.out.cell 5; have k6 := C2.out.cell 6; have k7 := C2.out.cell 7; have k8 := C2.out.cell 8; have k9 := C2.out.cell 9; have k10 := C2.out.cell 10
  have hwr : IntKind.i64.wrap (((hl on : Nat) : Int) + (dn : Int)) = ((hl on : Nat) : Int) + (dn : Int) := i64_in _ (by omega)
  go_wp2_with fail
  refine wp_region_noPanic ?_
  refine rgn.regionT (R := Only []) (by kernel_rfl) (Only.refl []) (fun _ _ _ => Only.trans) (fun _ _ _ _ _ h => h) (.y 0 (.y 1 (.y 3 (.y 4 (.y 5 (.y 7 (.e 2 (.y 6 (.y 8 .z))))))))) (by kernel_rfl) (fun W hWd => ?_)
  have HWd := hid hWd; clear hWd
  have HQ6 : Hid (Only [] w2 W) := hid (Only.eq_drew (Only.refl [] _) HWd.out)
  have q9 := HQ6.out.keep k9
  have q10 := HQ6.out.keep k10
  clear HWd
  refine rgn.Walk.ys (v := ?_) rfl rfl rfl ?_ ?_
  rotate_left 1
  · intro W' hW'
    go_simp
    try with_reducible rfl
  try simp only [Act.put, List.setIfInBounds_toArray, List.set_cons_zero, List.set_cons_succ]
  refine rgn.Walk.ys (v := ?_) rfl rfl rfl ?_ ?_
  rotate_left 1
  · intro W' hW'
    have q0 := hW'.keep q9
    go_simp
    try with_reducible rfl
  try simp only [Act.put, List.setIfInBounds_toArray, List.set_cons_zero, List.set_cons_succ]
  refine rgn.Walk.ys (v := ?_) rfl rfl rfl ?_ ?_
  rotate_left 1
  · intro W' hW'
    go_simp
    try with_reducible rfl
  try simp only [Act.put, List.setIfInBounds_toArray, List.set_cons_zero, List.set_cons_succ]
  refine rgn.Walk.ys (v := ?_) rfl rfl rfl ?_ ?_
  rotate_left 1
  · intro W' hW'
    have q0 := hW'.keep q10
    go_simp
    try with_reducible rfl
  try simp only [Act.put, List.setIfInBounds_toArray, List.set_cons_zero, List.set_cons_succ]
  refine rgn.Walk.ys (v := ?_) rfl rfl rfl ?_ ?_
  rotate_left 1
  · intro W' hW'
    go_simp
    try with_reducible rfl
  try simp only [Act.put, List.setIfInBounds_toArray, List.set_cons_zero, List.set_cons_succ]
  refine rgn.Walk.ys (v := ?_) rfl rfl rfl ?_ ?_
  rotate_left 1
  · intro W' hW'
    go_simp
    try with_reducible rfl
  try simp only [Act.put, List.setIfInBounds_toArray, List.set_cons_zero, List.set_cons_succ]
  refine rgn.Walk.es ?_
  refine rgn.stepE rfl rfl (fun K hK => ?_)
  go_simp
  refine (fhead1 _ oA on oc (by omega)).mono ?_
  rintro x w4 ⟨rfl, hw4⟩
  obtain rfl := hw4.symm
  refine hK _ _ (Only.refl [] _) ?_
  clear hK K
  try simp only [Act.put, List.setIfInBounds_toArray, List.set_cons_zero, List.set_cons_succ]
  refine rgn.Walk.ys (v := ?_) rfl rfl rfl ?_ ?_
  rotate_left 1
  · intro W' hW'
    go_simp
    try with_reducible rfl
  try simp only [Act.put, List.setIfInBounds_toArray, List.set_cons_zero, List.set_cons_succ]
  refine rgn.Walk.ys (v := ?_) rfl rfl rfl ?_ ?_
  rotate_left 1
  · intro W' hW'
    go_simp
    try with_reducible rfl
  try simp only [Act.put, List.setIfInBounds_toArray, List.set_cons_zero, List.set_cons_succ]
  refine rgn.Walk.zs (NoPanic.normal ?_)
  clear k0 k1 k2 k3 k4 k5 k6 k7 k8 k9 k10 hwr q9 q10
  obtain ⟨w3, hw3⟩ : ∃ w3, w3 = W := ⟨_, rfl⟩
  subst hw3
  have C3 := hid (C2.out.only HQ6.out (by simp))
  have Q3 := hid (Q2.out.trans HQ6.out)
  have hs3 : w.heap.size < w3.heap.size := Nat.lt_of_lt_of_le HW2.out HQ6.out.size
  have k0 := C3.out.cell 0; have k1 := C3.out.cell 1; have k2 := C3.out.cell 2; have k3 := C3.out.cell 3; have k4 := C3.out.cell 4; have k5 := C3.out.cell 5; have k6 := C3.out.cell 6; have k7 := C3.out.cell 7; have k8 := C3.out.cell 8; have k9 := C3.out.cell 9; have k10 := C3.out.cell 10
  clear C0 C2 Q0 Q2 HQ6 HW2
  by_cases hfit : ((hl on : Nat) : Int) + (dn : Int) ≤ m
  case pos =>
    go_wp2_with fail
    refine (fclone2 w3 sv pid wh mo off lf pr fr to oA on oc dA dn dc o d (HO.out.only_nil Q3.out) HZo.out (HD.out.only_nil Q3.out) HZd.out hn hdn).mono ?_
    rintro x w4 ⟨A1, c1, A2, c2, rfl, h1, h2, o4, hap⟩
    have H1 := hid h1; have H2 := hid h2
    have Q4 := hid (Q3.out.trans o4)
    have hs4 := o4.size
    clear k0 k1 k2 k3 k4 k5 k6 k7 k8 k9 k10 h1 h2 o4
    go_wp2_with fail
    go_ret2
    obtain ⟨q, hq⟩ : ∃ q : Pk, q = ⟨sv, pid, wh, mo, off, lf, pr, fr, to, A1, c1, o, A2, c2, d⟩ := ⟨_, rfl⟩
    have hqo : q.o.length = on := by rw [hq]; exact Hon.out
    have hqd : q.d.length = dn := by rw [hq]; exact Hdn.out
    have hcs : q.cs.toArray = #[.int .i64 sv, .int .i64 pid, .bool wh, .bool mo, .int .i64 off, .int .i64 lf, .int .i64 pr, .int .u32 fr, .int .u32 to, .slice A1 on c1, .slice A2 dn c2] := by
      unfold Pk.cs; rw [hqo, hqd, hq]
    have qa : Only [] w4 (w4.alloc (.cells q.cs.toArray 26)) := (Only.refl [] w4).alloc _
    have hbase : w.heap.size ≤ w4.heap.size := by omega
    rw [← hcs]
    refine ⟨_, 0, [q], rfl, ?_, ?_, ?_, Q4.out.trans qa⟩
    · rw [hq]
      exact SpR.fit HM.out (by show chk sv pid off lf pr o d.length = 0; rw [Hdn.out]; exact HCk.out) (by show hl o.length + d.length ≤ m.toNat; rw [Hon.out, Hdn.out]; omega)
    · have h9 := World.ownsRow_lit (base := w.heap.size) (e := 26) (size := 11) w4 q.cs.toArray 1 hbase (by unfold maxLen; omega) rfl
      simpa [pcs] using h9
    · have b1 : Own .u8 5 w4 w.heap.size (.slice q.oA q.o.length q.oc) q.o := by rw [hqo, hq]; exact H1.out.mono_base (by omega)
      have b2 : Own .u8 5 w4 w.heap.size (.slice q.dA q.d.length q.dc) q.d := by rw [hqd, hq]; exact H2.out.mono_base (by omega)
      exact PDq.one (own_keepK b1 (KK.of_nil qa hbase)) (own_keepK b2 (KK.of_nil qa hbase)) (by rw [hq]; exact blk_ap hap)
  have HNF : Hid (¬ hl o.length + d.length ≤ m.toNat) := hid (by rw [Hon.out, Hdn.out]; omega)
  cases wh with
  | true =>
    go_wp2_with fail
    go_ret2
    exact ⟨.slice none 0 0, 5, [], rfl, SpR.wh HM.out (by show chk sv pid off lf pr o d.length = 0; rw [Hdn.out]; exact HCk.out) HNF.out rfl, World.ownsRow_nil _ _ _ _, (PDq.nil _ _), Q3.out⟩
  | false =>
    obtain ⟨W4, hW4⟩ : ∃ W4, w3.alloc (.cells #[.int .i64 sv, .int .i64 pid, .bool false, .bool mo, .int .i64 off, .int .i64 lf, .int .i64 pr, .int .u32 fr, .int .u32 to, .slice oA on oc, .slice dA dn dc] 26) = W4 := ⟨_, rfl⟩
    have O4 : Hid (Only [] w3 W4) := hid (by rw [← hW4]; exact (Only.refl [] w3).alloc _)
    have R4 : Hid (Ob W4 w3.heap.size 26 #[.int .i64 sv, .int .i64 pid, .bool false, .bool mo, .int .i64 off, .int .i64 lf, .int .i64 pr, .int .u32 fr, .int .u32 to, .slice oA on oc, .slice dA dn dc]) := hid (by rw [← hW4]; exact Ob.new _ _ _)
    have hs4 : w3.heap.size < W4.heap.size := R4.out.lt
    have Q4 := hid (Q3.out.trans O4.out)
    have X4 := hid (C3.out.only O4.out (by simp))
    obtain ⟨mm, hmm⟩ : ∃ mm : Nat, m = (mm : Int) := ⟨m.toNat, by omega⟩
    subst hmm
    have HM2 := hid (show ((mm : Int)).toNat = mm by omega)
    go_wp2_with fail
    clear k0 k1 k2 k3 k4 k5 k6 k7 k8 k9 k10 hW4
    obtain ⟨g9, hg9⟩ : ∃ g9, w3.heap.size = g9 := ⟨_, rfl⟩
    rw [hg9] at R4 hs4 hs3
    rw [hg9]
    obtain ⟨B1, hB1⟩ : ∃ B1, W4.heap.size = B1 := ⟨_, rfl⟩
    have HgX : Hid (w.heap.size < g9) := hid hs3
    have HgB : Hid (w.heap.size ≤ g9) := hid (by omega)
    have HgV : Hid (g9 < B1) := hid (by omega)
    have HB4 : Hid (B1 ≤ W4.heap.size) := hid (by omega)
    clear hg9 hB1 hs3 hs4 C3 O4
    go_loopg [8, 10, 11] (d.length + 1) (fun gk vo v10 v11 wr => ∃ (v : Value) (M : List Pk) (of2 : Int) (rA : Option Addr) (rc : Nat) (o2 : List Int) (eA : Option Addr) (ec : Nat) (d2 : List Int), v = vo ∧ Hid (d2.length < gk) ∧ Hid (Ob wr g9 26 #[.int .i64 sv, .int .i64 pid, .bool false, .bool mo, .int .i64 of2, .int .i64 lf, .int .i64 pr, .int .u32 fr, .int .u32 to, .slice rA o2.length rc, .slice eA d2.length ec]) ∧ Hid (Ob wr w.heap.size 26 #[.int .i64 sv, .int .i64 pid, .bool false, .bool mo, .int .i64 off, .int .i64 lf, .int .i64 pr, .int .u32 fr, .int .u32 to, .slice oA on oc, .slice dA dn dc]) ∧ Hid (wr.ownsRow B1 26 11 v M.length (pcs M)) ∧ Hid (PDq w.heap.size wr M) ∧ Hid (DK w.heap.size wr rA o2.length rc o2) ∧ Hid (DK w.heap.size wr eA d2.length ec d2) ∧ Hid (Ofs o2 true) ∧ Hid (o2.length ≤ on) ∧ Hid (InvM off mm M) ∧ Hid (dat M ++ d2 = d) ∧ Hid (of2 = off + ((dat M).length : Int) ∧ (dat M).length % 8 = 0 ∧ (0 < d2.length ∨ (dat M).length = 0) ∧ 8 * M.length ≤ (dat M).length) ∧ Hid (Only [] w wr) ∧ Hid (B1 ≤ wr.heap.size) ∧ Hid (XInv mm (sq sv pid false mo off lf pr fr to o d) o2 M))
    case atStart => exact ⟨.slice none 0 0, [], off, oA, oc, o, dA, dc, d, rfl, hid (by omega), hid (by rw [Hon.out, Hdn.out]; exact R4.out), X4, hid (World.ownsRow_nil _ _ _ _), hid (PDq.nil _ _), hid (by rw [Hon.out]; exact (DK.of_arg HO.out (Nat.le_refl _) hnc HCo.out HZo.out).keep (KK.of_nil Q4.out (Nat.le_refl _))), hid (by rw [Hdn.out]; exact (DK.of_arg HD.out (Nat.le_refl _) hdnc HCd.out HZd.out).keep (KK.of_nil Q4.out (Nat.le_refl _))), HOf, hid (by rw [Hon.out]; exact Nat.le_refl _), hid (fun k hk => absurd hk (by simp)), hid (by simp [dat]), hid ⟨by simp [dat], by simp [dat], (.inr (by simp [dat])), by simp⟩, Q4, HB4, hid (XInv.start mm (sq sv pid false mo off lf pr fr to o d))⟩
    case round =>
      clear R4 X4 Q4 HB4
      obtain ⟨v, M, of2, rA, rc, o2, eA, ec, d2, rfl, HGk, HR, HBx, HV, HPD, HOo, HEd, HOf2, HOl, HIv, HDt, HOff, QR, HB, HXv⟩ := hrel
      have hol : o2.length ≤ 40 := by have := HOl.out; omega
      have hl2 := hl_bd o2.length
      obtain ⟨R, hR⟩ : ∃ R : Nat, (mm : Int) - ((hl o2.length : Nat) : Int) = (R : Int) := ⟨mm - hl o2.length, by omega⟩
      have HRR := hid hR
      have hR8 : 8 ≤ R := by have : hl o2.length ≤ 60 := by unfold hl; omega
                             omega
      have hRm : R + hl o2.length = mm := by omega
      have hdl : d2.length ≤ dn := by have h9 := congrArg List.length HDt.out; rw [List.length_append, Hdn.out] at h9; omega
      have hdd : (dat M).length + d2.length = dn := by have h9 := congrArg List.length HDt.out; rwa [List.length_append, Hdn.out] at h9
      have HDD := hid hdd
      have HRm := hid hRm
      have ks9 := HR.out.cell 9; have ks10 := HR.out.cell 10
      clear hRm hdd hl2
      go_wp2_with fail
      refine (fhead1 wr rA o2.length rc (by omega)).mono ?_
      rintro x w5 ⟨rfl, hw5⟩
      obtain rfl := hw5.symm
      clear hw5
      have ks0 := HR.out.cell 0; have ks1 := HR.out.cell 1; have ks2 := HR.out.cell 2; have ks3 := HR.out.cell 3; have ks4 := HR.out.cell 4; have ks5 := HR.out.cell 5; have ks6 := HR.out.cell 6; have ks7 := HR.out.cell 7; have ks8 := HR.out.cell 8
      by_cases hfit2 : d2.length ≤ R
      case pos =>
        have hfz : (d2.length : Int) ≤ (R : Int) := by omega
        go_wp2_with fail
        refine (fclone2 wr sv pid false mo of2 lf pr fr to rA o2.length rc eA d2.length ec o2 d2 HOo.out.rd HOo.out.2.2.2.1 HEd.out.rd HEd.out.2.2.2.1 (by omega) (by omega)).mono ?_
        rintro x w6 ⟨A1, c1, A2, c2, rfl, h1, h2, o6, hap⟩
        have HAp := hid hap; clear hap
        obtain ⟨q, hq⟩ : ∃ q : Pk, q = ⟨sv, pid, false, mo, of2, lf, pr, fr, to, A1, c1, o2, A2, c2, d2⟩ := ⟨_, rfl⟩
        have HQq := hid hq
        have hcs : q.cs.toArray = #[.int .i64 sv, .int .i64 pid, .bool false, .bool mo, .int .i64 of2, .int .i64 lf, .int .i64 pr, .int .u32 fr, .int .u32 to, .slice A1 o2.length c1, .slice A2 d2.length c2] := by unfold Pk.cs; rw [hq]
        have hOne : RdS (w6.alloc (.cells #[.int .i64 sv, .int .i64 pid, .bool false, .bool mo, .int .i64 of2, .int .i64 lf, .int .i64 pr, .int .u32 fr, .int .u32 to, .slice A1 o2.length c1, .slice A2 d2.length c2] 26)) (some ⟨w6.heap.size, 0, none⟩) 1 11 q.cs := by rw [← hcs]; exact rdS_pk w6 q
        have HOne := hid hOne
        have q7 : Only [] w6 (w6.alloc (.cells #[.int .i64 sv, .int .i64 pid, .bool false, .bool mo, .int .i64 of2, .int .i64 lf, .int .i64 pr, .int .u32 fr, .int .u32 to, .slice A1 o2.length c1, .slice A2 d2.length c2] 26)) := (Only.refl [] w6).alloc _
        have HVa := hid (own_only_nil (own_only_nil HV.out o6) q7)
        have hMl : M.length ≤ 100000 := by
          have h9 := HOff.out.2.2.2
          have h8 := HDD.out
          omega
        have hsz6 : B1 ≤ (w6.alloc (.cells #[.int .i64 sv, .int .i64 pid, .bool false, .bool mo, .int .i64 of2, .int .i64 lf, .int .i64 pr, .int .u32 fr, .int .u32 to, .slice A1 o2.length c1, .slice A2 d2.length c2] 26)).heap.size := by have := HB.out; have := o6.size; have := q7.size; omega
        have H1 := hid h1; have H2 := hid h2
        have Q6 := hid (QR.out.trans (o6.trans q7))
        have hb0 := Q6.out.size
        have KA : KK w.heap.size wr (w6.alloc (.cells #[.int .i64 sv, .int .i64 pid, .bool false, .bool mo, .int .i64 of2, .int .i64 lf, .int .i64 pr, .int .u32 fr, .int .u32 to, .slice A1 o2.length c1, .slice A2 d2.length c2] 26)) := KK.of_nil (o6.trans q7) QR.out.size
        have K67 : KK w.heap.size w6 (w6.alloc (.cells #[.int .i64 sv, .int .i64 pid, .bool false, .bool mo, .int .i64 of2, .int .i64 lf, .int .i64 pr, .int .u32 fr, .int .u32 to, .slice A1 o2.length c1, .slice A2 d2.length c2] 26)) := KK.of_nil q7 (Nat.le_trans QR.out.size o6.size)
        clear ks0 ks1 ks2 ks3 ks4 ks5 ks6 ks7 ks8 ks9 ks10 h1 h2 hq hOne hcs
        go_wp2_with (at_builtin; refine wpList_appS _ rfl (.tmp 52) (.tmp 55) _ rfl elemPk B1 v M.length (pcs M) rfl HVa.out (some ⟨w6.heap.size, 0, none⟩) 1 1 q.cs rfl HOne.out (by intro e; cases e) (.inr ⟨_, _, rfl⟩) (by omega) (by unfold maxLen; omega) hsz6 ?_)
        intro v7 w7 hv7 hg7 hb7
        have HV7 : Hid (w7.ownsRow B1 26 11 v7 (M ++ [q]).length (pcs (M ++ [q]))) := hid (by rw [pcs_app, List.length_append]; simpa [pcs] using hv7)
        have K7 := KK.of_grown (base := w.heap.size) HVa.out (by decide) (by have := HgV.out; have := HgB.out; omega) hb0 hg7
        have Q7 := hid (Q6.out.of_grown hg7 (fun i hi => .inr (by have := (own_lt HVa.out i hi).1; have := HgV.out; have := HgB.out; omega)))
        clear hv7 hg7 hb7
        go_wp2_with fail
        go_ret2
        refine ⟨v7, 0, M ++ [q], rfl, ?_, own_mono HV7.out (by have := HgV.out; have := HgB.out; omega), ?_, Q7.out⟩
        · obtain ⟨u, hu, hp⟩ := XInv.last (q := q) HXv.out HDt.out HOf.out (by have := HRm.out; omega) (by rw [HQq.out, HOff.out.1]; rfl)
          exact SpR.pcs u _ HM.out (by show chk sv pid off lf pr o d.length = 0; rw [Hdn.out]; exact HCk.out) HNF.out rfl hu (by rw [HM2.out]; exact hp)
        · refine PDq.add HPD.out (KA.trans K7) ?_ ?_ (by rw [HQq.out]; exact blk_ge H1.out (Nat.le_refl _)) (by rw [HQq.out]; exact blk_ge H2.out (Nat.le_refl _)) (by rw [HQq.out]; exact blk_ap HAp.out)
          · rw [HQq.out]; exact own_keepK (own_keepK (H1.out.mono_base QR.out.size) K67) K7
          · rw [HQq.out]; exact own_keepK (own_keepK (H2.out.mono_base QR.out.size) K67) K7
      cases gk with
      | zero => exact absurd HGk.out (by omega)
      | succ f =>
        have hfz : ¬ (d2.length : Int) ≤ (R : Int) := by omega
        obtain ⟨Nn, hNn⟩ : ∃ Nn : Nat, R / 8 * 8 = Nn := ⟨_, rfl⟩
        have hNz : (R : Int) / 8 * 8 = (Nn : Int) := by omega
        have hN8 : 8 ≤ Nn := by omega
        have hNR : Nn ≤ R := by omega
        have HN8 : Hid (Nn % 8 = 0) := hid (by omega)
        have hNl : Nn < d2.length := by omega
        obtain ⟨eb, eo, rfl, _⟩ := HEd.out.rd.cells (by omega)
        have hec : d2.length ≤ ec := HEd.out.2.1
        have hecm : ec ≤ 9223372036854775807 := by have h9 := HEd.out.2.2.1; unfold maxLen at h9; exact h9
        have g1 : (Nn : Int) ≤ (ec : Int) := by omega
        have g2 : ¬ (ec : Int) = (Nn : Int) := by omega
        have g3 : (Nn : Int) ≤ (d2.length : Int) := by omega
        obtain ⟨W12, hW12⟩ : ∃ W12, wr.alloc (.cells #[.int .i64 sv, .int .i64 pid, .bool false, .bool true, .int .i64 of2, .int .i64 lf, .int .i64 pr, .int .u32 fr, .int .u32 to, .slice rA o2.length rc, .slice (some ⟨eb, eo, none⟩) Nn ec] 26) = W12 := ⟨_, rfl⟩
        have O12 : Hid (Only [] wr W12) := hid (by rw [← hW12]; exact (Only.refl [] wr).alloc _)
        have N12 : Hid (Ob W12 wr.heap.size 26 #[.int .i64 sv, .int .i64 pid, .bool false, .bool true, .int .i64 of2, .int .i64 lf, .int .i64 pr, .int .u32 fr, .int .u32 to, .slice rA o2.length rc, .slice (some ⟨eb, eo, none⟩) Nn ec]) := hid (by rw [← hW12]; exact Ob.new _ _ _)
        have z0 := N12.out.cell 0; have z1 := N12.out.cell 1; have z2 := N12.out.cell 2; have z3 := N12.out.cell 3; have z4 := N12.out.cell 4; have z5 := N12.out.cell 5; have z6 := N12.out.cell 6; have z7 := N12.out.cell 7; have z8 := N12.out.cell 8; have z9 := N12.out.cell 9; have z10 := N12.out.cell 10
        have y10 := (HR.out.alloc (.cells #[.int .i64 sv, .int .i64 pid, .bool false, .bool mo, .int .i64 of2, .int .i64 lf, .int .i64 pr, .int .u32 fr, .int .u32 to, .slice rA o2.length rc, .slice (some ⟨eb, eo, none⟩) d2.length ec] 26)).cell 10
        have HNq : Hid (Nn = (mm - hl o2.length) / 8 * 8) := hid (by have := HRm.out; omega)
        clear hNn
        go_wp2_with fail
        clear y10
        have K12 : KK w.heap.size wr W12 := KK.of_nil O12.out QR.out.size
        refine (fclone2 W12 sv pid false true of2 lf pr fr to rA o2.length rc (some ⟨eb, eo, none⟩) Nn ec o2 (d2.take Nn) (HOo.out.keep K12).rd HOo.out.2.2.2.1 ((HEd.out.keep K12).take (by omega)).rd (by intro e; cases e) (by omega) (by omega)).mono ?_
        rintro x w6 ⟨A1, c1, A2, c2, rfl, h1, h2, o6, hap⟩
        have HAp := hid hap; clear hap
        have htl : (d2.take Nn).length = Nn := by rw [List.length_take]; omega
        obtain ⟨q, hq⟩ : ∃ q : Pk, q = ⟨sv, pid, false, true, of2, lf, pr, fr, to, A1, c1, o2, A2, c2, d2.take Nn⟩ := ⟨_, rfl⟩
        have HQq := hid hq
        have hcs : q.cs.toArray = #[.int .i64 sv, .int .i64 pid, .bool false, .bool true, .int .i64 of2, .int .i64 lf, .int .i64 pr, .int .u32 fr, .int .u32 to, .slice A1 o2.length c1, .slice A2 Nn c2] := by unfold Pk.cs; rw [hq]; simp only [htl]
        have HOne : Hid (RdS (w6.alloc (.cells #[.int .i64 sv, .int .i64 pid, .bool false, .bool true, .int .i64 of2, .int .i64 lf, .int .i64 pr, .int .u32 fr, .int .u32 to, .slice A1 o2.length c1, .slice A2 Nn c2] 26)) (some ⟨w6.heap.size, 0, none⟩) 1 11 q.cs) := hid (by rw [← hcs]; exact rdS_pk w6 q)
        have q7 : Only [] w6 (w6.alloc (.cells #[.int .i64 sv, .int .i64 pid, .bool false, .bool true, .int .i64 of2, .int .i64 lf, .int .i64 pr, .int .u32 fr, .int .u32 to, .slice A1 o2.length c1, .slice A2 Nn c2] 26)) := (Only.refl [] w6).alloc _
        have oo := (O12.out.trans o6).trans q7
        have HVa := hid (own_only_nil HV.out oo)
        have hMl : M.length ≤ 100000 := by
          have h9 := HOff.out.2.2.2
          have h8 := HDD.out
          omega
        have hsz6 : B1 ≤ (w6.alloc (.cells #[.int .i64 sv, .int .i64 pid, .bool false, .bool true, .int .i64 of2, .int .i64 lf, .int .i64 pr, .int .u32 fr, .int .u32 to, .slice A1 o2.length c1, .slice A2 Nn c2] 26)).heap.size := Nat.le_trans HB.out oo.size
        have H1 := hid h1; have H2 := hid h2
        have HTl := hid htl
        have Q6 := hid (QR.out.trans oo)
        have hb0 := Q6.out.size
        have KA : KK w.heap.size wr (w6.alloc (.cells #[.int .i64 sv, .int .i64 pid, .bool false, .bool true, .int .i64 of2, .int .i64 lf, .int .i64 pr, .int .u32 fr, .int .u32 to, .slice A1 o2.length c1, .slice A2 Nn c2] 26)) := KK.of_nil oo QR.out.size
        have K67 : KK w.heap.size w6 (w6.alloc (.cells #[.int .i64 sv, .int .i64 pid, .bool false, .bool true, .int .i64 of2, .int .i64 lf, .int .i64 pr, .int .u32 fr, .int .u32 to, .slice A1 o2.length c1, .slice A2 Nn c2] 26)) := KK.of_nil q7 (Nat.le_trans QR.out.size (O12.out.trans o6).size)
        have HRa := hid (HR.out.only oo (by simp))
        have HBa := hid (HBx.out.only oo (by simp))
        clear ks0 ks1 ks2 ks3 ks4 ks5 ks6 ks7 ks8 ks9 ks10 z0 z1 z2 z3 z4 z5 z6 z7 z8 z9 z10 h1 h2 hq hcs hW12 htl N12 K12
        have O12z := hid O12.out.size
        clear O12
        go_wp2_with (at_builtin; refine wpList_appS _ rfl (.tmp 67) (.tmp 70) _ rfl elemPk B1 v M.length (pcs M) rfl HVa.out (some ⟨w6.heap.size, 0, none⟩) 1 1 q.cs rfl HOne.out (by intro e; cases e) (.inr ⟨_, _, rfl⟩) (by omega) (by unfold maxLen; omega) hsz6 ?_)
        intro v9 w9 hv9 hg9 hb9
        have HV9 : Hid (w9.ownsRow B1 26 11 v9 (M ++ [q]).length (pcs (M ++ [q]))) := hid (by rw [pcs_app, List.length_append]; simpa [pcs] using hv9)
        have K9 := KK.of_grown (base := w.heap.size) HVa.out (by decide) (by have := HgV.out; have := HgB.out; omega) hb0 hg9
        have Q9 := hid (Q6.out.of_grown hg9 (fun i hi => .inr (by have := (own_lt HVa.out i hi).1; have := HgV.out; have := HgB.out; omega)))
        have HR9w : Hid (Ob w9 g9 26 #[.int .i64 sv, .int .i64 pid, .bool false, .bool mo, .int .i64 of2, .int .i64 lf, .int .i64 pr, .int .u32 fr, .int .u32 to, .slice rA o2.length rc, .slice (some ⟨eb, eo, none⟩) d2.length ec]) := hid ((hg9.block _ HRa.out.lt (fun e => by have := (own_lt HVa.out _ e.symm).1; have := HgV.out; omega)).trans HRa.out)
        have HBx9 : Hid (Ob w9 w.heap.size 26 #[.int .i64 sv, .int .i64 pid, .bool false, .bool mo, .int .i64 off, .int .i64 lf, .int .i64 pr, .int .u32 fr, .int .u32 to, .slice oA on oc, .slice dA dn dc]) := hid ((hg9.block _ HBa.out.lt (fun e => by have := (own_lt HVa.out _ e.symm).1; have := HgV.out; have := HgB.out; omega)).trans HBa.out)
        have HB9 : Hid (B1 ≤ w9.heap.size) := hid (Nat.le_trans hsz6 hg9.size)
        have hbO : w.heap.size ≤ _ := Nat.le_trans QR.out.size O12z.out
        have HPD9 : Hid (PDq w.heap.size w9 (M ++ [q])) := hid (PDq.add HPD.out (KA.trans K9) (by rw [HQq.out]; exact own_keepK (own_keepK (H1.out.mono_base hbO) K67) K9) (by rw [HQq.out]; show Own _ _ _ _ (.slice A2 (d2.take Nn).length c2) (d2.take Nn); rw [HTl.out]; exact own_keepK (own_keepK (H2.out.mono_base hbO) K67) K9) (by rw [HQq.out]; exact blk_ge H1.out O12z.out) (by rw [HQq.out]; exact blk_ge H2.out O12z.out) (by rw [HQq.out]; exact blk_ap HAp.out))
        have HX9 : Hid (∀ u', CpR o u' → XInv mm (sq sv pid false mo off lf pr fr to o d) u' (M ++ [q])) := hid (fun u' hu' => XInv.step (q := q) HXv.out HDt.out hu' HNq.out (by omega) (by have := HRm.out; omega) (by rw [HQq.out, HOff.out.1]; rfl) (by rw [HQq.out]; exact HTl.out))
        have hnec : ¬ ec = Nn := by omega
        have HEd9 : Hid (DK w.heap.size w9 (some ⟨eb, eo, none⟩) d2.length ec d2) := hid ((HEd.out.keep KA).keep K9)
        have HIv9 : Hid (InvM off mm (M ++ [q])) := hid (HIv.out.add ⟨by rw [List.take_append_of_le_length (Nat.le_refl _), List.take_length, HQq.out]; exact HOff.out.1, by rw [HQq.out]; show chk sv pid of2 lf pr o2 (d2.take Nn).length = 0; rw [HTl.out]; exact chk_piece HCk.out HOf2.out (by have := HOl.out; have := Hon.out; omega) HOff.out.1 (by have := HDD.out; omega) HOff.out.2.1 (.inl (by omega)), by rw [HQq.out]; show hl o2.length + (d2.take Nn).length ≤ mm; rw [HTl.out]; have := HRm.out; omega⟩ (by rw [HQq.out]) (by rw [HQq.out]; show (d2.take Nn).length % 8 = 0; rw [HTl.out]; exact HN8.out))
        have HDt9 : Hid (dat (M ++ [q]) ++ d2.drop Nn = d) := hid (by rw [dat_snoc, HQq.out, List.append_assoc]; show dat M ++ (d2.take Nn ++ d2.drop Nn) = d; rw [List.take_append_drop]; exact HDt.out)
        have HOff9 : Hid (of2 + (Nn : Int) = off + ((dat (M ++ [q])).length : Int) ∧ (dat (M ++ [q])).length % 8 = 0 ∧ (0 < (d2.drop Nn).length ∨ (dat (M ++ [q])).length = 0) ∧ 8 * (M ++ [q]).length ≤ (dat (M ++ [q])).length) := hid (by
          have h4 := HOff.out.2.2.2
          have h1 := HOff.out.1
          have h2 := HOff.out.2.1
          have h3 := HN8.out
          have h5 : (dat (M ++ [q])).length = (dat M).length + Nn := by rw [dat_snoc, List.length_append, HQq.out]; show _ + (d2.take Nn).length = _; rw [HTl.out]
          have h6 : (M ++ [q]).length = M.length + 1 := by simp
          rw [h5, h6, List.length_drop]
          omega)
        have HOb : Hid (0 ≤ of2 ∧ of2 + Nn ≤ 65535) := hid (by
          have h1 := HOff.out.1
          have h2 := HNu.out
          unfold Nums at h2
          have h3 := HLL.out
          have h4 := HDD.out
          omega)
        clear hbO HXv HNq
        clear hv9 hg9 hb9 HR HRa HBa HBx HV HVa HPD HEd HIv HDt HOff KA K67 K9 Q6 QR hsz6 hb0 HOne q7 oo o6
        go_wp2_with fail
        refine wp_region_noPanic ?_
        refine rgn.regionT (R := Same w.heap.size) (by kernel_rfl) (Same.refl w.heap.size) (Same.trans (g := w.heap.size)) (fun _ _ _ _ _ h => h) (.y 0 (.y 2 (.y 4 (.y 6 (.y 8 (.y 9 (.c 1 5 10 (.y 3 (.b 5 10 (.y 7 (.y 11 (.e 10 (.e 12 (.y 13 (.e 14 (.y 15 (.e 16 .z)))))))) (.e 5 (.y 7 (.y 11 (.e 12 (.y 13 (.e 14 (.y 15 (.e 16 .z)))))))))) (.y 7 (.b 1 10 (.y 3 (.y 11 (.e 10 (.e 12 (.y 13 (.e 14 (.y 15 (.e 16 .z)))))))) (.e 1 (.y 3 (.y 11 (.e 12 (.y 13 (.e 14 (.y 15 (.e 16 .z)))))))))) (.b 1 5 (.y 3 (.e 5 (.y 7 (.y 11 (.e 12 (.y 13 (.e 14 (.y 15 (.e 16 .z))))))))) (.y 7 (.e 1 (.y 3 (.y 11 (.e 12 (.y 13 (.e 14 (.y 15 (.e 16 .z))))))))))))))))) (by kernel_rfl) (fun W hWd => ?_)
        have HWd := hid hWd; clear hWd
        have HQ : Hid (Only [] w9 W) := hid (Only.eq_drew (Only.refl [] _) HWd.out)
        have HBx := hid (HBx9.out.only HQ.out (by simp)); have HR9 := hid (HR9w.out.only HQ.out (by simp))
        have HX0 := HBx
        have hwN : IntKind.i64.wrap (of2 + (Nn : Int)) = of2 + (Nn : Int) := i64_in _ (by have := HOb.out; omega)
        clear HWd
        refine rgn.Walk.ys (v := ?_) rfl rfl rfl ?_ ?_
        rotate_left 1
        · intro W' hW'
          go_simp
          try with_reducible rfl
        try simp only [Act.put, List.setIfInBounds_toArray, List.set_cons_zero, List.set_cons_succ]
        refine rgn.Walk.ys (v := ?_) rfl rfl rfl ?_ ?_
        rotate_left 1
        · intro W' hW'
          go_simp
          try with_reducible rfl
        try simp only [Act.put, List.setIfInBounds_toArray, List.set_cons_zero, List.set_cons_succ]
        refine rgn.Walk.ys (v := ?_) rfl rfl rfl ?_ ?_
        rotate_left 1
        · intro W' hW'
          go_simp
          try with_reducible rfl
        try simp only [Act.put, List.setIfInBounds_toArray, List.set_cons_zero, List.set_cons_succ]
        refine rgn.Walk.ys (v := ?_) rfl rfl rfl ?_ ?_
        rotate_left 1
        · intro W' hW'
          go_simp
          try with_reducible rfl
        try simp only [Act.put, List.setIfInBounds_toArray, List.set_cons_zero, List.set_cons_succ]
        refine rgn.Walk.ys (v := ?_) rfl rfl rfl ?_ ?_
        rotate_left 1
        · intro W' hW'
          go_simp
          try with_reducible rfl
        try simp only [Act.put, List.setIfInBounds_toArray, List.set_cons_zero, List.set_cons_succ]
        refine rgn.Walk.ys (v := ?_) rfl rfl rfl ?_ ?_
        rotate_left 1
        · intro W' hW'
          have q0 := (HX0.out.same hW').cell 9
          go_simp
          try with_reducible rfl
        try simp only [Act.put, List.setIfInBounds_toArray, List.set_cons_zero, List.set_cons_succ]
        refine rgn.Walk.cs ?_ ?_ ?_
        · refine rgn.stepE rfl rfl (fun K hK => ?_)
          have qq := HR9.out.cell 10
          go_simp
          refine hK _ _ (Same.refl _ _) ?_
          clear hK K qq
          try simp only [Act.put, List.setIfInBounds_toArray, List.set_cons_zero, List.set_cons_succ]
          refine rgn.Walk.ys (v := ?_) rfl rfl rfl ?_ ?_
          rotate_left 1
          · intro W' hW'
            go_simp
            try rw [if_neg hnec]
            try with_reducible rfl
          try simp only [Act.put, List.setIfInBounds_toArray, List.set_cons_zero, List.set_cons_succ]
          refine rgn.Walk.bs ?_ ?_
          · refine rgn.stepE rfl rfl (fun K hK => ?_)
            have qq := HR9.out.cell 4
            go_simp
            refine hK _ _ (Same.refl _ _) ?_
            clear hK K qq
            try simp only [Act.put, List.setIfInBounds_toArray, List.set_cons_zero, List.set_cons_succ]
            refine rgn.Walk.ys (v := ?_) rfl rfl rfl ?_ ?_
            rotate_left 1
            · intro W' hW'
              go_simp
              try with_reducible rfl
            try simp only [Act.put, List.setIfInBounds_toArray, List.set_cons_zero, List.set_cons_succ]
            refine rgn.Walk.ys (v := ?_) rfl rfl rfl ?_ ?_
            rotate_left 1
            · intro W' hW'
              go_simp
              try with_reducible rfl
            try simp only [Act.put, List.setIfInBounds_toArray, List.set_cons_zero, List.set_cons_succ]
            refine rgn.Walk.es ?_
            refine rgn.stepE rfl rfl (fun K hK => ?_)
            go_simp
            refine (copied2 _ oA on oc o (HO.out.only_nil (Q9.out.trans HQ.out)) hnc HCo.out (by omega) HOf.out).mono ?_
            rintro x w8 ⟨vu, u, rfl, hu, hcp, hofs, hul, o8⟩
            refine hK _ _ (Same.only o8 HBx.out.lt) ?_
            clear hK K
            obtain ⟨A7, c7, rfl, _, _⟩ := own_form hu
            have HOu := hid (show DK w.heap.size _ A7 u.length c7 u from DK.of_own hu)
            have HUf := hid hofs; have HUc := hid hcp
            have HUl := hid hul
            have HQ := hid (HQ.out.trans o8); have HBx := hid (HBx.out.only o8 (by simp)); have HR9 := hid (HR9.out.only o8 (by simp))
            have HR9p := HR9
            clear hu hcp hofs hul o8
            try simp only [Act.put, List.setIfInBounds_toArray, List.set_cons_zero, List.set_cons_succ]
            refine rgn.Walk.es ?_
            refine rgn.stepE rfl rfl (fun K hK => ?_)
            have qq := HR9.out.cell 10; have ff := HR9.out.frozen 10
            go_simp
            refine hK _ _ (Same.of_onlyT ((Only.refl [g9] _).setCell (p := ⟨g9, 10, none⟩) (Or.inl (by simp)) (.slice (some ⟨eb, eo + Nn, none⟩) (d2.length - Nn) (ec - Nn))) HBx.out.lt (by have := HgX.out; simp; omega)) ?_
            clear hK K qq ff
            have HBx := hid (HBx.out.far (p := ⟨g9, 10, none⟩) (by have := HgX.out; show w.heap.size ≠ g9; omega) (.slice (some ⟨eb, eo + Nn, none⟩) (d2.length - Nn) (ec - Nn)))
            have HT := hid ((Only.refl [g9] w8).setCell (p := ⟨g9, 10, none⟩) (Or.inl (by simp)) (.slice (some ⟨eb, eo + Nn, none⟩) (d2.length - Nn) (ec - Nn)))
            have HR9n : Hid (Ob _ g9 26 #[.int .i64 sv, .int .i64 pid, .bool false, .bool mo, .int .i64 of2, .int .i64 lf, .int .i64 pr, .int .u32 fr, .int .u32 to, .slice rA o2.length rc, .slice (some ⟨eb, eo + Nn, none⟩) (d2.length - Nn) (ec - Nn)]) := hid (HR9.out.set 10 (.slice (some ⟨eb, eo + Nn, none⟩) (d2.length - Nn) (ec - Nn)))
            clear HR9
            have HR9 := HR9n
            clear HR9n
            try simp only [Act.put, List.setIfInBounds_toArray, List.set_cons_zero, List.set_cons_succ]
            refine rgn.Walk.ys (v := ?_) rfl rfl rfl ?_ ?_
            rotate_left 1
            · intro W' hW'
              go_simp
              try with_reducible rfl
            try simp only [Act.put, List.setIfInBounds_toArray, List.set_cons_zero, List.set_cons_succ]
            refine rgn.Walk.es ?_
            refine rgn.stepE rfl rfl (fun K hK => ?_)
            have qq := HR9.out.cell 4; have ff := HR9.out.frozen 4
            go_simp
            refine hK _ _ (Same.of_onlyT ((Only.refl [g9] _).setCell (p := ⟨g9, 4, none⟩) (Or.inl (by simp)) (.int .i64 (of2 + (Nn : Int)))) HBx.out.lt (by have := HgX.out; simp; omega)) ?_
            clear hK K qq ff
            have HBx := hid (HBx.out.far (p := ⟨g9, 4, none⟩) (by have := HgX.out; show w.heap.size ≠ g9; omega) (.int .i64 (of2 + (Nn : Int))))
            have HT := hid (HT.out.setCell (p := ⟨g9, 4, none⟩) (Or.inl (by simp)) (.int .i64 (of2 + (Nn : Int))))
            have HR9n : Hid (Ob _ g9 26 #[.int .i64 sv, .int .i64 pid, .bool false, .bool mo, .int .i64 (of2 + (Nn : Int)), .int .i64 lf, .int .i64 pr, .int .u32 fr, .int .u32 to, .slice rA o2.length rc, .slice (some ⟨eb, eo + Nn, none⟩) (d2.length - Nn) (ec - Nn)]) := hid (HR9.out.set 4 (.int .i64 (of2 + (Nn : Int))))
            clear HR9
            have HR9 := HR9n
            clear HR9n
            try simp only [Act.put, List.setIfInBounds_toArray, List.set_cons_zero, List.set_cons_succ]
            refine rgn.Walk.ys (v := ?_) rfl rfl rfl ?_ ?_
            rotate_left 1
            · intro W' hW'
              go_simp
              try with_reducible rfl
            try simp only [Act.put, List.setIfInBounds_toArray, List.set_cons_zero, List.set_cons_succ]
            refine rgn.Walk.es ?_
            refine rgn.stepE rfl rfl (fun K hK => ?_)
            have qq := HR9.out.cell 9; have ff := HR9.out.frozen 9
            go_simp
            refine hK _ _ (Same.of_onlyT ((Only.refl [g9] _).setCell (p := ⟨g9, 9, none⟩) (Or.inl (by simp)) (.slice A7 u.length c7)) HBx.out.lt (by have := HgX.out; simp; omega)) ?_
            clear hK K qq ff
            have HBx := hid (HBx.out.far (p := ⟨g9, 9, none⟩) (by have := HgX.out; show w.heap.size ≠ g9; omega) (.slice A7 u.length c7))
            have HT := hid (HT.out.setCell (p := ⟨g9, 9, none⟩) (Or.inl (by simp)) (.slice A7 u.length c7))
            have HR9n : Hid (Ob _ g9 26 #[.int .i64 sv, .int .i64 pid, .bool false, .bool mo, .int .i64 (of2 + (Nn : Int)), .int .i64 lf, .int .i64 pr, .int .u32 fr, .int .u32 to, .slice A7 u.length c7, .slice (some ⟨eb, eo + Nn, none⟩) (d2.length - Nn) (ec - Nn)]) := hid (HR9.out.set 9 (.slice A7 u.length c7))
            clear HR9
            have HR9 := HR9n
            clear HR9n
            try simp only [Act.put, List.setIfInBounds_toArray, List.set_cons_zero, List.set_cons_succ]
            refine rgn.Walk.zs (NoPanic.normal ?_)
            have O3 : Hid (Only [g9] w9 _) := hid ((HQ.out.more (by simp)).trans HT.out)
            have hb8 : w.heap.size ≤ _ := Nat.le_trans Q9.out.size HQ.out.size
            have K8 := KK.of_one HT.out hb8 HR9p.out HgB.out (by decide)
            have K3 := KK.of_one O3.out Q9.out.size HR9w.out HgB.out (by decide)
            have hV9 := own_only HV9.out O3.out (fun i hi hm => by have h1 := (own_lt HV9.out i hi).1; have h2 := HgV.out; simp at hm; omega)
            go_wp2_with fail
            go_roundg f
            case rel => exact ⟨_, M ++ [q], of2 + (Nn : Int), A7, c7, u, some ⟨eb, eo + Nn, none⟩, ec - Nn, d2.drop Nn, rfl, hid (by rw [List.length_drop]; have := HGk.out; omega), hid (by rw [List.length_drop]; exact HR9.out), HBx, hid (by simpa using hV9), hid (HPD9.out.keep K3), hid (HOu.out.keep K8), hid (by rw [List.length_drop]; exact (HEd9.out.drop (by omega)).keep K3), HUf, HUl, HIv9, HDt9, HOff9, hid (Only.fresh Q9.out O3.out (fun i hi => .inr (by have := HgB.out; simp at hi; omega))), hid (Nat.le_trans HB9.out O3.out.size), hid (HX9.out _ HUc.out)⟩
            case measure => omega
          · refine rgn.stepE rfl rfl (fun K hK => ?_)
            go_simp
            refine (copied2 _ oA on oc o (HO.out.only_nil (Q9.out.trans HQ.out)) hnc HCo.out (by omega) HOf.out).mono ?_
            rintro x w8 ⟨vu, u, rfl, hu, hcp, hofs, hul, o8⟩
            refine hK _ _ (Same.only o8 HBx.out.lt) ?_
            clear hK K
            obtain ⟨A7, c7, rfl, _, _⟩ := own_form hu
            have HOu := hid (show DK w.heap.size _ A7 u.length c7 u from DK.of_own hu)
            have HUf := hid hofs; have HUc := hid hcp
            have HUl := hid hul
            have HQ := hid (HQ.out.trans o8); have HBx := hid (HBx.out.only o8 (by simp)); have HR9 := hid (HR9.out.only o8 (by simp))
            have HR9p := HR9
            clear hu hcp hofs hul o8
            try simp only [Act.put, List.setIfInBounds_toArray, List.set_cons_zero, List.set_cons_succ]
            refine rgn.Walk.es ?_
            refine rgn.stepE rfl rfl (fun K hK => ?_)
            have qq := HR9.out.cell 4
            go_simp
            refine hK _ _ (Same.refl _ _) ?_
            clear hK K qq
            try simp only [Act.put, List.setIfInBounds_toArray, List.set_cons_zero, List.set_cons_succ]
            refine rgn.Walk.ys (v := ?_) rfl rfl rfl ?_ ?_
            rotate_left 1
            · intro W' hW'
              go_simp
              try with_reducible rfl
            try simp only [Act.put, List.setIfInBounds_toArray, List.set_cons_zero, List.set_cons_succ]
            refine rgn.Walk.ys (v := ?_) rfl rfl rfl ?_ ?_
            rotate_left 1
            · intro W' hW'
              go_simp
              try with_reducible rfl
            try simp only [Act.put, List.setIfInBounds_toArray, List.set_cons_zero, List.set_cons_succ]
            refine rgn.Walk.es ?_
            refine rgn.stepE rfl rfl (fun K hK => ?_)
            have qq := HR9.out.cell 10; have ff := HR9.out.frozen 10
            go_simp
            refine hK _ _ (Same.of_onlyT ((Only.refl [g9] _).setCell (p := ⟨g9, 10, none⟩) (Or.inl (by simp)) (.slice (some ⟨eb, eo + Nn, none⟩) (d2.length - Nn) (ec - Nn))) HBx.out.lt (by have := HgX.out; simp; omega)) ?_
            clear hK K qq ff
            have HBx := hid (HBx.out.far (p := ⟨g9, 10, none⟩) (by have := HgX.out; show w.heap.size ≠ g9; omega) (.slice (some ⟨eb, eo + Nn, none⟩) (d2.length - Nn) (ec - Nn)))
            have HT := hid ((Only.refl [g9] w8).setCell (p := ⟨g9, 10, none⟩) (Or.inl (by simp)) (.slice (some ⟨eb, eo + Nn, none⟩) (d2.length - Nn) (ec - Nn)))
            have HR9n : Hid (Ob _ g9 26 #[.int .i64 sv, .int .i64 pid, .bool false, .bool mo, .int .i64 of2, .int .i64 lf, .int .i64 pr, .int .u32 fr, .int .u32 to, .slice rA o2.length rc, .slice (some ⟨eb, eo + Nn, none⟩) (d2.length - Nn) (ec - Nn)]) := hid (HR9.out.set 10 (.slice (some ⟨eb, eo + Nn, none⟩) (d2.length - Nn) (ec - Nn)))
            clear HR9
            have HR9 := HR9n
            clear HR9n
            try simp only [Act.put, List.setIfInBounds_toArray, List.set_cons_zero, List.set_cons_succ]
            refine rgn.Walk.ys (v := ?_) rfl rfl rfl ?_ ?_
            rotate_left 1
            · intro W' hW'
              go_simp
              try with_reducible rfl
            try simp only [Act.put, List.setIfInBounds_toArray, List.set_cons_zero, List.set_cons_succ]
            refine rgn.Walk.es ?_
            refine rgn.stepE rfl rfl (fun K hK => ?_)
            have qq := HR9.out.cell 4; have ff := HR9.out.frozen 4
            go_simp
            refine hK _ _ (Same.of_onlyT ((Only.refl [g9] _).setCell (p := ⟨g9, 4, none⟩) (Or.inl (by simp)) (.int .i64 (of2 + (Nn : Int)))) HBx.out.lt (by have := HgX.out; simp; omega)) ?_
            clear hK K qq ff
            have HBx := hid (HBx.out.far (p := ⟨g9, 4, none⟩) (by have := HgX.out; show w.heap.size ≠ g9; omega) (.int .i64 (of2 + (Nn : Int))))
            have HT := hid (HT.out.setCell (p := ⟨g9, 4, none⟩) (Or.inl (by simp)) (.int .i64 (of2 + (Nn : Int))))
            have HR9n : Hid (Ob _ g9 26 #[.int .i64 sv, .int .i64 pid, .bool false, .bool mo, .int .i64 (of2 + (Nn : Int)), .int .i64 lf, .int .i64 pr, .int .u32 fr, .int .u32 to, .slice rA o2.length rc, .slice (some ⟨eb, eo + Nn, none⟩) (d2.length - Nn) (ec - Nn)]) := hid (HR9.out.set 4 (.int .i64 (of2 + (Nn : Int))))
            clear HR9
            have HR9 := HR9n
            clear HR9n
            try simp only [Act.put, List.setIfInBounds_toArray, List.set_cons_zero, List.set_cons_succ]
            refine rgn.Walk.ys (v := ?_) rfl rfl rfl ?_ ?_
            rotate_left 1
            · intro W' hW'
              go_simp
              try with_reducible rfl
            try simp only [Act.put, List.setIfInBounds_toArray, List.set_cons_zero, List.set_cons_succ]
            refine rgn.Walk.es ?_
            refine rgn.stepE rfl rfl (fun K hK => ?_)
            have qq := HR9.out.cell 9; have ff := HR9.out.frozen 9
            go_simp
            refine hK _ _ (Same.of_onlyT ((Only.refl [g9] _).setCell (p := ⟨g9, 9, none⟩) (Or.inl (by simp)) (.slice A7 u.length c7)) HBx.out.lt (by have := HgX.out; simp; omega)) ?_
            clear hK K qq ff
            have HBx := hid (HBx.out.far (p := ⟨g9, 9, none⟩) (by have := HgX.out; show w.heap.size ≠ g9; omega) (.slice A7 u.length c7))
            have HT := hid (HT.out.setCell (p := ⟨g9, 9, none⟩) (Or.inl (by simp)) (.slice A7 u.length c7))
            have HR9n : Hid (Ob _ g9 26 #[.int .i64 sv, .int .i64 pid, .bool false, .bool mo, .int .i64 (of2 + (Nn : Int)), .int .i64 lf, .int .i64 pr, .int .u32 fr, .int .u32 to, .slice A7 u.length c7, .slice (some ⟨eb, eo + Nn, none⟩) (d2.length - Nn) (ec - Nn)]) := hid (HR9.out.set 9 (.slice A7 u.length c7))
            clear HR9
            have HR9 := HR9n
            clear HR9n
            try simp only [Act.put, List.setIfInBounds_toArray, List.set_cons_zero, List.set_cons_succ]
            refine rgn.Walk.zs (NoPanic.normal ?_)
            have O3 : Hid (Only [g9] w9 _) := hid ((HQ.out.more (by simp)).trans HT.out)
            have hb8 : w.heap.size ≤ _ := Nat.le_trans Q9.out.size HQ.out.size
            have K8 := KK.of_one HT.out hb8 HR9p.out HgB.out (by decide)
            have K3 := KK.of_one O3.out Q9.out.size HR9w.out HgB.out (by decide)
            have hV9 := own_only HV9.out O3.out (fun i hi hm => by have h1 := (own_lt HV9.out i hi).1; have h2 := HgV.out; simp at hm; omega)
            go_wp2_with fail
            go_roundg f
            case rel => exact ⟨_, M ++ [q], of2 + (Nn : Int), A7, c7, u, some ⟨eb, eo + Nn, none⟩, ec - Nn, d2.drop Nn, rfl, hid (by rw [List.length_drop]; have := HGk.out; omega), hid (by rw [List.length_drop]; exact HR9.out), HBx, hid (by simpa using hV9), hid (HPD9.out.keep K3), hid (HOu.out.keep K8), hid (by rw [List.length_drop]; exact (HEd9.out.drop (by omega)).keep K3), HUf, HUl, HIv9, HDt9, HOff9, hid (Only.fresh Q9.out O3.out (fun i hi => .inr (by have := HgB.out; simp at hi; omega))), hid (Nat.le_trans HB9.out O3.out.size), hid (HX9.out _ HUc.out)⟩
            case measure => omega
        · refine rgn.stepE rfl rfl (fun K hK => ?_)
          have qq := HR9.out.cell 4
          go_simp
          refine hK _ _ (Same.refl _ _) ?_
          clear hK K qq
          try simp only [Act.put, List.setIfInBounds_toArray, List.set_cons_zero, List.set_cons_succ]
          refine rgn.Walk.ys (v := ?_) rfl rfl rfl ?_ ?_
          rotate_left 1
          · intro W' hW'
            go_simp
            try with_reducible rfl
          try simp only [Act.put, List.setIfInBounds_toArray, List.set_cons_zero, List.set_cons_succ]
          refine rgn.Walk.bs ?_ ?_
          · refine rgn.stepE rfl rfl (fun K hK => ?_)
            have qq := HR9.out.cell 10
            go_simp
            refine hK _ _ (Same.refl _ _) ?_
            clear hK K qq
            try simp only [Act.put, List.setIfInBounds_toArray, List.set_cons_zero, List.set_cons_succ]
            refine rgn.Walk.ys (v := ?_) rfl rfl rfl ?_ ?_
            rotate_left 1
            · intro W' hW'
              go_simp
              try rw [if_neg hnec]
              try with_reducible rfl
            try simp only [Act.put, List.setIfInBounds_toArray, List.set_cons_zero, List.set_cons_succ]
            refine rgn.Walk.ys (v := ?_) rfl rfl rfl ?_ ?_
            rotate_left 1
            · intro W' hW'
              go_simp
              try with_reducible rfl
            try simp only [Act.put, List.setIfInBounds_toArray, List.set_cons_zero, List.set_cons_succ]
            refine rgn.Walk.es ?_
            refine rgn.stepE rfl rfl (fun K hK => ?_)
            go_simp
            refine (copied2 _ oA on oc o (HO.out.only_nil (Q9.out.trans HQ.out)) hnc HCo.out (by omega) HOf.out).mono ?_
            rintro x w8 ⟨vu, u, rfl, hu, hcp, hofs, hul, o8⟩
            refine hK _ _ (Same.only o8 HBx.out.lt) ?_
            clear hK K
            obtain ⟨A7, c7, rfl, _, _⟩ := own_form hu
            have HOu := hid (show DK w.heap.size _ A7 u.length c7 u from DK.of_own hu)
            have HUf := hid hofs; have HUc := hid hcp
            have HUl := hid hul
            have HQ := hid (HQ.out.trans o8); have HBx := hid (HBx.out.only o8 (by simp)); have HR9 := hid (HR9.out.only o8 (by simp))
            have HR9p := HR9
            clear hu hcp hofs hul o8
            try simp only [Act.put, List.setIfInBounds_toArray, List.set_cons_zero, List.set_cons_succ]
            refine rgn.Walk.es ?_
            refine rgn.stepE rfl rfl (fun K hK => ?_)
            have qq := HR9.out.cell 10; have ff := HR9.out.frozen 10
            go_simp
            refine hK _ _ (Same.of_onlyT ((Only.refl [g9] _).setCell (p := ⟨g9, 10, none⟩) (Or.inl (by simp)) (.slice (some ⟨eb, eo + Nn, none⟩) (d2.length - Nn) (ec - Nn))) HBx.out.lt (by have := HgX.out; simp; omega)) ?_
            clear hK K qq ff
            have HBx := hid (HBx.out.far (p := ⟨g9, 10, none⟩) (by have := HgX.out; show w.heap.size ≠ g9; omega) (.slice (some ⟨eb, eo + Nn, none⟩) (d2.length - Nn) (ec - Nn)))
            have HT := hid ((Only.refl [g9] w8).setCell (p := ⟨g9, 10, none⟩) (Or.inl (by simp)) (.slice (some ⟨eb, eo + Nn, none⟩) (d2.length - Nn) (ec - Nn)))
            have HR9n : Hid (Ob _ g9 26 #[.int .i64 sv, .int .i64 pid, .bool false, .bool mo, .int .i64 of2, .int .i64 lf, .int .i64 pr, .int .u32 fr, .int .u32 to, .slice rA o2.length rc, .slice (some ⟨eb, eo + Nn, none⟩) (d2.length - Nn) (ec - Nn)]) := hid (HR9.out.set 10 (.slice (some ⟨eb, eo + Nn, none⟩) (d2.length - Nn) (ec - Nn)))
            clear HR9
            have HR9 := HR9n
            clear HR9n
            try simp only [Act.put, List.setIfInBounds_toArray, List.set_cons_zero, List.set_cons_succ]
            refine rgn.Walk.ys (v := ?_) rfl rfl rfl ?_ ?_
            rotate_left 1
            · intro W' hW'
              go_simp
              try with_reducible rfl
            try simp only [Act.put, List.setIfInBounds_toArray, List.set_cons_zero, List.set_cons_succ]
            refine rgn.Walk.es ?_
            refine rgn.stepE rfl rfl (fun K hK => ?_)
            have qq := HR9.out.cell 4; have ff := HR9.out.frozen 4
            go_simp
            refine hK _ _ (Same.of_onlyT ((Only.refl [g9] _).setCell (p := ⟨g9, 4, none⟩) (Or.inl (by simp)) (.int .i64 (of2 + (Nn : Int)))) HBx.out.lt (by have := HgX.out; simp; omega)) ?_
            clear hK K qq ff
            have HBx := hid (HBx.out.far (p := ⟨g9, 4, none⟩) (by have := HgX.out; show w.heap.size ≠ g9; omega) (.int .i64 (of2 + (Nn : Int))))
            have HT := hid (HT.out.setCell (p := ⟨g9, 4, none⟩) (Or.inl (by simp)) (.int .i64 (of2 + (Nn : Int))))
            have HR9n : Hid (Ob _ g9 26 #[.int .i64 sv, .int .i64 pid, .bool false, .bool mo, .int .i64 (of2 + (Nn : Int)), .int .i64 lf, .int .i64 pr, .int .u32 fr, .int .u32 to, .slice rA o2.length rc, .slice (some ⟨eb, eo + Nn, none⟩) (d2.length - Nn) (ec - Nn)]) := hid (HR9.out.set 4 (.int .i64 (of2 + (Nn : Int))))
            clear HR9
            have HR9 := HR9n
            clear HR9n
            try simp only [Act.put, List.setIfInBounds_toArray, List.set_cons_zero, List.set_cons_succ]
            refine rgn.Walk.ys (v := ?_) rfl rfl rfl ?_ ?_
            rotate_left 1
            · intro W' hW'
              go_simp
              try with_reducible rfl
            try simp only [Act.put, List.setIfInBounds_toArray, List.set_cons_zero, List.set_cons_succ]
            refine rgn.Walk.es ?_
            refine rgn.stepE rfl rfl (fun K hK => ?_)
            have qq := HR9.out.cell 9; have ff := HR9.out.frozen 9
            go_simp
            refine hK _ _ (Same.of_onlyT ((Only.refl [g9] _).setCell (p := ⟨g9, 9, none⟩) (Or.inl (by simp)) (.slice A7 u.length c7)) HBx.out.lt (by have := HgX.out; simp; omega)) ?_
            clear hK K qq ff
            have HBx := hid (HBx.out.far (p := ⟨g9, 9, none⟩) (by have := HgX.out; show w.heap.size ≠ g9; omega) (.slice A7 u.length c7))
            have HT := hid (HT.out.setCell (p := ⟨g9, 9, none⟩) (Or.inl (by simp)) (.slice A7 u.length c7))
            have HR9n : Hid (Ob _ g9 26 #[.int .i64 sv, .int .i64 pid, .bool false, .bool mo, .int .i64 (of2 + (Nn : Int)), .int .i64 lf, .int .i64 pr, .int .u32 fr, .int .u32 to, .slice A7 u.length c7, .slice (some ⟨eb, eo + Nn, none⟩) (d2.length - Nn) (ec - Nn)]) := hid (HR9.out.set 9 (.slice A7 u.length c7))
            clear HR9
            have HR9 := HR9n
            clear HR9n
            try simp only [Act.put, List.setIfInBounds_toArray, List.set_cons_zero, List.set_cons_succ]
            refine rgn.Walk.zs (NoPanic.normal ?_)
            have O3 : Hid (Only [g9] w9 _) := hid ((HQ.out.more (by simp)).trans HT.out)
            have hb8 : w.heap.size ≤ _ := Nat.le_trans Q9.out.size HQ.out.size
            have K8 := KK.of_one HT.out hb8 HR9p.out HgB.out (by decide)
            have K3 := KK.of_one O3.out Q9.out.size HR9w.out HgB.out (by decide)
            have hV9 := own_only HV9.out O3.out (fun i hi hm => by have h1 := (own_lt HV9.out i hi).1; have h2 := HgV.out; simp at hm; omega)
            go_wp2_with fail
            go_roundg f
            case rel => exact ⟨_, M ++ [q], of2 + (Nn : Int), A7, c7, u, some ⟨eb, eo + Nn, none⟩, ec - Nn, d2.drop Nn, rfl, hid (by rw [List.length_drop]; have := HGk.out; omega), hid (by rw [List.length_drop]; exact HR9.out), HBx, hid (by simpa using hV9), hid (HPD9.out.keep K3), hid (HOu.out.keep K8), hid (by rw [List.length_drop]; exact (HEd9.out.drop (by omega)).keep K3), HUf, HUl, HIv9, HDt9, HOff9, hid (Only.fresh Q9.out O3.out (fun i hi => .inr (by have := HgB.out; simp at hi; omega))), hid (Nat.le_trans HB9.out O3.out.size), hid (HX9.out _ HUc.out)⟩
            case measure => omega
          · refine rgn.stepE rfl rfl (fun K hK => ?_)
            go_simp
            refine (copied2 _ oA on oc o (HO.out.only_nil (Q9.out.trans HQ.out)) hnc HCo.out (by omega) HOf.out).mono ?_
            rintro x w8 ⟨vu, u, rfl, hu, hcp, hofs, hul, o8⟩
            refine hK _ _ (Same.only o8 HBx.out.lt) ?_
            clear hK K
            obtain ⟨A7, c7, rfl, _, _⟩ := own_form hu
            have HOu := hid (show DK w.heap.size _ A7 u.length c7 u from DK.of_own hu)
            have HUf := hid hofs; have HUc := hid hcp
            have HUl := hid hul
            have HQ := hid (HQ.out.trans o8); have HBx := hid (HBx.out.only o8 (by simp)); have HR9 := hid (HR9.out.only o8 (by simp))
            have HR9p := HR9
            clear hu hcp hofs hul o8
            try simp only [Act.put, List.setIfInBounds_toArray, List.set_cons_zero, List.set_cons_succ]
            refine rgn.Walk.es ?_
            refine rgn.stepE rfl rfl (fun K hK => ?_)
            have qq := HR9.out.cell 10
            go_simp
            refine hK _ _ (Same.refl _ _) ?_
            clear hK K qq
            try simp only [Act.put, List.setIfInBounds_toArray, List.set_cons_zero, List.set_cons_succ]
            refine rgn.Walk.ys (v := ?_) rfl rfl rfl ?_ ?_
            rotate_left 1
            · intro W' hW'
              go_simp
              try rw [if_neg hnec]
              try with_reducible rfl
            try simp only [Act.put, List.setIfInBounds_toArray, List.set_cons_zero, List.set_cons_succ]
            refine rgn.Walk.ys (v := ?_) rfl rfl rfl ?_ ?_
            rotate_left 1
            · intro W' hW'
              go_simp
              try with_reducible rfl
            try simp only [Act.put, List.setIfInBounds_toArray, List.set_cons_zero, List.set_cons_succ]
            refine rgn.Walk.es ?_
            refine rgn.stepE rfl rfl (fun K hK => ?_)
            have qq := HR9.out.cell 10; have ff := HR9.out.frozen 10
            go_simp
            refine hK _ _ (Same.of_onlyT ((Only.refl [g9] _).setCell (p := ⟨g9, 10, none⟩) (Or.inl (by simp)) (.slice (some ⟨eb, eo + Nn, none⟩) (d2.length - Nn) (ec - Nn))) HBx.out.lt (by have := HgX.out; simp; omega)) ?_
            clear hK K qq ff
            have HBx := hid (HBx.out.far (p := ⟨g9, 10, none⟩) (by have := HgX.out; show w.heap.size ≠ g9; omega) (.slice (some ⟨eb, eo + Nn, none⟩) (d2.length - Nn) (ec - Nn)))
            have HT := hid ((Only.refl [g9] w8).setCell (p := ⟨g9, 10, none⟩) (Or.inl (by simp)) (.slice (some ⟨eb, eo + Nn, none⟩) (d2.length - Nn) (ec - Nn)))
            have HR9n : Hid (Ob _ g9 26 #[.int .i64 sv, .int .i64 pid, .bool false, .bool mo, .int .i64 of2, .int .i64 lf, .int .i64 pr, .int .u32 fr, .int .u32 to, .slice rA o2.length rc, .slice (some ⟨eb, eo + Nn, none⟩) (d2.length - Nn) (ec - Nn)]) := hid (HR9.out.set 10 (.slice (some ⟨eb, eo + Nn, none⟩) (d2.length - Nn) (ec - Nn)))
            clear HR9
            have HR9 := HR9n
            clear HR9n
            try simp only [Act.put, List.setIfInBounds_toArray, List.set_cons_zero, List.set_cons_succ]
            refine rgn.Walk.ys (v := ?_) rfl rfl rfl ?_ ?_
            rotate_left 1
            · intro W' hW'
              go_simp
              try with_reducible rfl
            try simp only [Act.put, List.setIfInBounds_toArray, List.set_cons_zero, List.set_cons_succ]
            refine rgn.Walk.es ?_
            refine rgn.stepE rfl rfl (fun K hK => ?_)
            have qq := HR9.out.cell 4; have ff := HR9.out.frozen 4
            go_simp
            refine hK _ _ (Same.of_onlyT ((Only.refl [g9] _).setCell (p := ⟨g9, 4, none⟩) (Or.inl (by simp)) (.int .i64 (of2 + (Nn : Int)))) HBx.out.lt (by have := HgX.out; simp; omega)) ?_
            clear hK K qq ff
            have HBx := hid (HBx.out.far (p := ⟨g9, 4, none⟩) (by have := HgX.out; show w.heap.size ≠ g9; omega) (.int .i64 (of2 + (Nn : Int))))
            have HT := hid (HT.out.setCell (p := ⟨g9, 4, none⟩) (Or.inl (by simp)) (.int .i64 (of2 + (Nn : Int))))
            have HR9n : Hid (Ob _ g9 26 #[.int .i64 sv, .int .i64 pid, .bool false, .bool mo, .int .i64 (of2 + (Nn : Int)), .int .i64 lf, .int .i64 pr, .int .u32 fr, .int .u32 to, .slice rA o2.length rc, .slice (some ⟨eb, eo + Nn, none⟩) (d2.length - Nn) (ec - Nn)]) := hid (HR9.out.set 4 (.int .i64 (of2 + (Nn : Int))))
            clear HR9
            have HR9 := HR9n
            clear HR9n
            try simp only [Act.put, List.setIfInBounds_toArray, List.set_cons_zero, List.set_cons_succ]
            refine rgn.Walk.ys (v := ?_) rfl rfl rfl ?_ ?_
            rotate_left 1
            · intro W' hW'
              go_simp
              try with_reducible rfl
            try simp only [Act.put, List.setIfInBounds_toArray, List.set_cons_zero, List.set_cons_succ]
            refine rgn.Walk.es ?_
            refine rgn.stepE rfl rfl (fun K hK => ?_)
            have qq := HR9.out.cell 9; have ff := HR9.out.frozen 9
            go_simp
            refine hK _ _ (Same.of_onlyT ((Only.refl [g9] _).setCell (p := ⟨g9, 9, none⟩) (Or.inl (by simp)) (.slice A7 u.length c7)) HBx.out.lt (by have := HgX.out; simp; omega)) ?_
            clear hK K qq ff
            have HBx := hid (HBx.out.far (p := ⟨g9, 9, none⟩) (by have := HgX.out; show w.heap.size ≠ g9; omega) (.slice A7 u.length c7))
            have HT := hid (HT.out.setCell (p := ⟨g9, 9, none⟩) (Or.inl (by simp)) (.slice A7 u.length c7))
            have HR9n : Hid (Ob _ g9 26 #[.int .i64 sv, .int .i64 pid, .bool false, .bool mo, .int .i64 (of2 + (Nn : Int)), .int .i64 lf, .int .i64 pr, .int .u32 fr, .int .u32 to, .slice A7 u.length c7, .slice (some ⟨eb, eo + Nn, none⟩) (d2.length - Nn) (ec - Nn)]) := hid (HR9.out.set 9 (.slice A7 u.length c7))
            clear HR9
            have HR9 := HR9n
            clear HR9n
            try simp only [Act.put, List.setIfInBounds_toArray, List.set_cons_zero, List.set_cons_succ]
            refine rgn.Walk.zs (NoPanic.normal ?_)
            have O3 : Hid (Only [g9] w9 _) := hid ((HQ.out.more (by simp)).trans HT.out)
            have hb8 : w.heap.size ≤ _ := Nat.le_trans Q9.out.size HQ.out.size
            have K8 := KK.of_one HT.out hb8 HR9p.out HgB.out (by decide)
            have K3 := KK.of_one O3.out Q9.out.size HR9w.out HgB.out (by decide)
            have hV9 := own_only HV9.out O3.out (fun i hi hm => by have h1 := (own_lt HV9.out i hi).1; have h2 := HgV.out; simp at hm; omega)
            go_wp2_with fail
            go_roundg f
            case rel => exact ⟨_, M ++ [q], of2 + (Nn : Int), A7, c7, u, some ⟨eb, eo + Nn, none⟩, ec - Nn, d2.drop Nn, rfl, hid (by rw [List.length_drop]; have := HGk.out; omega), hid (by rw [List.length_drop]; exact HR9.out), HBx, hid (by simpa using hV9), hid (HPD9.out.keep K3), hid (HOu.out.keep K8), hid (by rw [List.length_drop]; exact (HEd9.out.drop (by omega)).keep K3), HUf, HUl, HIv9, HDt9, HOff9, hid (Only.fresh Q9.out O3.out (fun i hi => .inr (by have := HgB.out; simp at hi; omega))), hid (Nat.le_trans HB9.out O3.out.size), hid (HX9.out _ HUc.out)⟩
            case measure => omega
        · refine rgn.stepE rfl rfl (fun K hK => ?_)
          go_simp
          refine (copied2 _ oA on oc o (HO.out.only_nil (Q9.out.trans HQ.out)) hnc HCo.out (by omega) HOf.out).mono ?_
          rintro x w8 ⟨vu, u, rfl, hu, hcp, hofs, hul, o8⟩
          refine hK _ _ (Same.only o8 HBx.out.lt) ?_
          clear hK K
          obtain ⟨A7, c7, rfl, _, _⟩ := own_form hu
          have HOu := hid (show DK w.heap.size _ A7 u.length c7 u from DK.of_own hu)
          have HUf := hid hofs; have HUc := hid hcp
          have HUl := hid hul
          have HQ := hid (HQ.out.trans o8); have HBx := hid (HBx.out.only o8 (by simp)); have HR9 := hid (HR9.out.only o8 (by simp))
          have HR9p := HR9
          clear hu hcp hofs hul o8
          try simp only [Act.put, List.setIfInBounds_toArray, List.set_cons_zero, List.set_cons_succ]
          refine rgn.Walk.bs ?_ ?_
          · refine rgn.stepE rfl rfl (fun K hK => ?_)
            have qq := HR9.out.cell 10
            go_simp
            refine hK _ _ (Same.refl _ _) ?_
            clear hK K qq
            try simp only [Act.put, List.setIfInBounds_toArray, List.set_cons_zero, List.set_cons_succ]
            refine rgn.Walk.ys (v := ?_) rfl rfl rfl ?_ ?_
            rotate_left 1
            · intro W' hW'
              go_simp
              try rw [if_neg hnec]
              try with_reducible rfl
            try simp only [Act.put, List.setIfInBounds_toArray, List.set_cons_zero, List.set_cons_succ]
            refine rgn.Walk.es ?_
            refine rgn.stepE rfl rfl (fun K hK => ?_)
            have qq := HR9.out.cell 4
            go_simp
            refine hK _ _ (Same.refl _ _) ?_
            clear hK K qq
            try simp only [Act.put, List.setIfInBounds_toArray, List.set_cons_zero, List.set_cons_succ]
            refine rgn.Walk.ys (v := ?_) rfl rfl rfl ?_ ?_
            rotate_left 1
            · intro W' hW'
              go_simp
              try with_reducible rfl
            try simp only [Act.put, List.setIfInBounds_toArray, List.set_cons_zero, List.set_cons_succ]
            refine rgn.Walk.ys (v := ?_) rfl rfl rfl ?_ ?_
            rotate_left 1
            · intro W' hW'
              go_simp
              try with_reducible rfl
            try simp only [Act.put, List.setIfInBounds_toArray, List.set_cons_zero, List.set_cons_succ]
            refine rgn.Walk.es ?_
            refine rgn.stepE rfl rfl (fun K hK => ?_)
            have qq := HR9.out.cell 10; have ff := HR9.out.frozen 10
            go_simp
            refine hK _ _ (Same.of_onlyT ((Only.refl [g9] _).setCell (p := ⟨g9, 10, none⟩) (Or.inl (by simp)) (.slice (some ⟨eb, eo + Nn, none⟩) (d2.length - Nn) (ec - Nn))) HBx.out.lt (by have := HgX.out; simp; omega)) ?_
            clear hK K qq ff
            have HBx := hid (HBx.out.far (p := ⟨g9, 10, none⟩) (by have := HgX.out; show w.heap.size ≠ g9; omega) (.slice (some ⟨eb, eo + Nn, none⟩) (d2.length - Nn) (ec - Nn)))
            have HT := hid ((Only.refl [g9] w8).setCell (p := ⟨g9, 10, none⟩) (Or.inl (by simp)) (.slice (some ⟨eb, eo + Nn, none⟩) (d2.length - Nn) (ec - Nn)))
            have HR9n : Hid (Ob _ g9 26 #[.int .i64 sv, .int .i64 pid, .bool false, .bool mo, .int .i64 of2, .int .i64 lf, .int .i64 pr, .int .u32 fr, .int .u32 to, .slice rA o2.length rc, .slice (some ⟨eb, eo + Nn, none⟩) (d2.length - Nn) (ec - Nn)]) := hid (HR9.out.set 10 (.slice (some ⟨eb, eo + Nn, none⟩) (d2.length - Nn) (ec - Nn)))
            clear HR9
            have HR9 := HR9n
            clear HR9n
            try simp only [Act.put, List.setIfInBounds_toArray, List.set_cons_zero, List.set_cons_succ]
            refine rgn.Walk.ys (v := ?_) rfl rfl rfl ?_ ?_
            rotate_left 1
            · intro W' hW'
              go_simp
              try with_reducible rfl
            try simp only [Act.put, List.setIfInBounds_toArray, List.set_cons_zero, List.set_cons_succ]
            refine rgn.Walk.es ?_
            refine rgn.stepE rfl rfl (fun K hK => ?_)
            have qq := HR9.out.cell 4; have ff := HR9.out.frozen 4
            go_simp
            refine hK _ _ (Same.of_onlyT ((Only.refl [g9] _).setCell (p := ⟨g9, 4, none⟩) (Or.inl (by simp)) (.int .i64 (of2 + (Nn : Int)))) HBx.out.lt (by have := HgX.out; simp; omega)) ?_
            clear hK K qq ff
            have HBx := hid (HBx.out.far (p := ⟨g9, 4, none⟩) (by have := HgX.out; show w.heap.size ≠ g9; omega) (.int .i64 (of2 + (Nn : Int))))
            have HT := hid (HT.out.setCell (p := ⟨g9, 4, none⟩) (Or.inl (by simp)) (.int .i64 (of2 + (Nn : Int))))
            have HR9n : Hid (Ob _ g9 26 #[.int .i64 sv, .int .i64 pid, .bool false, .bool mo, .int .i64 (of2 + (Nn : Int)), .int .i64 lf, .int .i64 pr, .int .u32 fr, .int .u32 to, .slice rA o2.length rc, .slice (some ⟨eb, eo + Nn, none⟩) (d2.length - Nn) (ec - Nn)]) := hid (HR9.out.set 4 (.int .i64 (of2 + (Nn : Int))))
            clear HR9
            have HR9 := HR9n
            clear HR9n
            try simp only [Act.put, List.setIfInBounds_toArray, List.set_cons_zero, List.set_cons_succ]
            refine rgn.Walk.ys (v := ?_) rfl rfl rfl ?_ ?_
            rotate_left 1
            · intro W' hW'
              go_simp
              try with_reducible rfl
            try simp only [Act.put, List.setIfInBounds_toArray, List.set_cons_zero, List.set_cons_succ]
            refine rgn.Walk.es ?_
            refine rgn.stepE rfl rfl (fun K hK => ?_)
            have qq := HR9.out.cell 9; have ff := HR9.out.frozen 9
            go_simp
            refine hK _ _ (Same.of_onlyT ((Only.refl [g9] _).setCell (p := ⟨g9, 9, none⟩) (Or.inl (by simp)) (.slice A7 u.length c7)) HBx.out.lt (by have := HgX.out; simp; omega)) ?_
            clear hK K qq ff
            have HBx := hid (HBx.out.far (p := ⟨g9, 9, none⟩) (by have := HgX.out; show w.heap.size ≠ g9; omega) (.slice A7 u.length c7))
            have HT := hid (HT.out.setCell (p := ⟨g9, 9, none⟩) (Or.inl (by simp)) (.slice A7 u.length c7))
            have HR9n : Hid (Ob _ g9 26 #[.int .i64 sv, .int .i64 pid, .bool false, .bool mo, .int .i64 (of2 + (Nn : Int)), .int .i64 lf, .int .i64 pr, .int .u32 fr, .int .u32 to, .slice A7 u.length c7, .slice (some ⟨eb, eo + Nn, none⟩) (d2.length - Nn) (ec - Nn)]) := hid (HR9.out.set 9 (.slice A7 u.length c7))
            clear HR9
            have HR9 := HR9n
            clear HR9n
            try simp only [Act.put, List.setIfInBounds_toArray, List.set_cons_zero, List.set_cons_succ]
            refine rgn.Walk.zs (NoPanic.normal ?_)
            have O3 : Hid (Only [g9] w9 _) := hid ((HQ.out.more (by simp)).trans HT.out)
            have hb8 : w.heap.size ≤ _ := Nat.le_trans Q9.out.size HQ.out.size
            have K8 := KK.of_one HT.out hb8 HR9p.out HgB.out (by decide)
            have K3 := KK.of_one O3.out Q9.out.size HR9w.out HgB.out (by decide)
            have hV9 := own_only HV9.out O3.out (fun i hi hm => by have h1 := (own_lt HV9.out i hi).1; have h2 := HgV.out; simp at hm; omega)
            go_wp2_with fail
            go_roundg f
            case rel => exact ⟨_, M ++ [q], of2 + (Nn : Int), A7, c7, u, some ⟨eb, eo + Nn, none⟩, ec - Nn, d2.drop Nn, rfl, hid (by rw [List.length_drop]; have := HGk.out; omega), hid (by rw [List.length_drop]; exact HR9.out), HBx, hid (by simpa using hV9), hid (HPD9.out.keep K3), hid (HOu.out.keep K8), hid (by rw [List.length_drop]; exact (HEd9.out.drop (by omega)).keep K3), HUf, HUl, HIv9, HDt9, HOff9, hid (Only.fresh Q9.out O3.out (fun i hi => .inr (by have := HgB.out; simp at hi; omega))), hid (Nat.le_trans HB9.out O3.out.size), hid (HX9.out _ HUc.out)⟩
            case measure => omega
          · refine rgn.stepE rfl rfl (fun K hK => ?_)
            have qq := HR9.out.cell 4
            go_simp
            refine hK _ _ (Same.refl _ _) ?_
            clear hK K qq
            try simp only [Act.put, List.setIfInBounds_toArray, List.set_cons_zero, List.set_cons_succ]
            refine rgn.Walk.ys (v := ?_) rfl rfl rfl ?_ ?_
            rotate_left 1
            · intro W' hW'
              go_simp
              try with_reducible rfl
            try simp only [Act.put, List.setIfInBounds_toArray, List.set_cons_zero, List.set_cons_succ]
            refine rgn.Walk.es ?_
            refine rgn.stepE rfl rfl (fun K hK => ?_)
            have qq := HR9.out.cell 10
            go_simp
            refine hK _ _ (Same.refl _ _) ?_
            clear hK K qq
            try simp only [Act.put, List.setIfInBounds_toArray, List.set_cons_zero, List.set_cons_succ]
            refine rgn.Walk.ys (v := ?_) rfl rfl rfl ?_ ?_
            rotate_left 1
            · intro W' hW'
              go_simp
              try rw [if_neg hnec]
              try with_reducible rfl
            try simp only [Act.put, List.setIfInBounds_toArray, List.set_cons_zero, List.set_cons_succ]
            refine rgn.Walk.ys (v := ?_) rfl rfl rfl ?_ ?_
            rotate_left 1
            · intro W' hW'
              go_simp
              try with_reducible rfl
            try simp only [Act.put, List.setIfInBounds_toArray, List.set_cons_zero, List.set_cons_succ]
            refine rgn.Walk.es ?_
            refine rgn.stepE rfl rfl (fun K hK => ?_)
            have qq := HR9.out.cell 10; have ff := HR9.out.frozen 10
            go_simp
            refine hK _ _ (Same.of_onlyT ((Only.refl [g9] _).setCell (p := ⟨g9, 10, none⟩) (Or.inl (by simp)) (.slice (some ⟨eb, eo + Nn, none⟩) (d2.length - Nn) (ec - Nn))) HBx.out.lt (by have := HgX.out; simp; omega)) ?_
            clear hK K qq ff
            have HBx := hid (HBx.out.far (p := ⟨g9, 10, none⟩) (by have := HgX.out; show w.heap.size ≠ g9; omega) (.slice (some ⟨eb, eo + Nn, none⟩) (d2.length - Nn) (ec - Nn)))
            have HT := hid ((Only.refl [g9] w8).setCell (p := ⟨g9, 10, none⟩) (Or.inl (by simp)) (.slice (some ⟨eb, eo + Nn, none⟩) (d2.length - Nn) (ec - Nn)))
            have HR9n : Hid (Ob _ g9 26 #[.int .i64 sv, .int .i64 pid, .bool false, .bool mo, .int .i64 of2, .int .i64 lf, .int .i64 pr, .int .u32 fr, .int .u32 to, .slice rA o2.length rc, .slice (some ⟨eb, eo + Nn, none⟩) (d2.length - Nn) (ec - Nn)]) := hid (HR9.out.set 10 (.slice (some ⟨eb, eo + Nn, none⟩) (d2.length - Nn) (ec - Nn)))
            clear HR9
            have HR9 := HR9n
            clear HR9n
            try simp only [Act.put, List.setIfInBounds_toArray, List.set_cons_zero, List.set_cons_succ]
            refine rgn.Walk.ys (v := ?_) rfl rfl rfl ?_ ?_
            rotate_left 1
            · intro W' hW'
              go_simp
              try with_reducible rfl
            try simp only [Act.put, List.setIfInBounds_toArray, List.set_cons_zero, List.set_cons_succ]
            refine rgn.Walk.es ?_
            refine rgn.stepE rfl rfl (fun K hK => ?_)
            have qq := HR9.out.cell 4; have ff := HR9.out.frozen 4
            go_simp
            refine hK _ _ (Same.of_onlyT ((Only.refl [g9] _).setCell (p := ⟨g9, 4, none⟩) (Or.inl (by simp)) (.int .i64 (of2 + (Nn : Int)))) HBx.out.lt (by have := HgX.out; simp; omega)) ?_
            clear hK K qq ff
            have HBx := hid (HBx.out.far (p := ⟨g9, 4, none⟩) (by have := HgX.out; show w.heap.size ≠ g9; omega) (.int .i64 (of2 + (Nn : Int))))
            have HT := hid (HT.out.setCell (p := ⟨g9, 4, none⟩) (Or.inl (by simp)) (.int .i64 (of2 + (Nn : Int))))
            have HR9n : Hid (Ob _ g9 26 #[.int .i64 sv, .int .i64 pid, .bool false, .bool mo, .int .i64 (of2 + (Nn : Int)), .int .i64 lf, .int .i64 pr, .int .u32 fr, .int .u32 to, .slice rA o2.length rc, .slice (some ⟨eb, eo + Nn, none⟩) (d2.length - Nn) (ec - Nn)]) := hid (HR9.out.set 4 (.int .i64 (of2 + (Nn : Int))))
            clear HR9
            have HR9 := HR9n
            clear HR9n
            try simp only [Act.put, List.setIfInBounds_toArray, List.set_cons_zero, List.set_cons_succ]
            refine rgn.Walk.ys (v := ?_) rfl rfl rfl ?_ ?_
            rotate_left 1
            · intro W' hW'
              go_simp
              try with_reducible rfl
            try simp only [Act.put, List.setIfInBounds_toArray, List.set_cons_zero, List.set_cons_succ]
            refine rgn.Walk.es ?_
            refine rgn.stepE rfl rfl (fun K hK => ?_)
            have qq := HR9.out.cell 9; have ff := HR9.out.frozen 9
            go_simp
            refine hK _ _ (Same.of_onlyT ((Only.refl [g9] _).setCell (p := ⟨g9, 9, none⟩) (Or.inl (by simp)) (.slice A7 u.length c7)) HBx.out.lt (by have := HgX.out; simp; omega)) ?_
            clear hK K qq ff
            have HBx := hid (HBx.out.far (p := ⟨g9, 9, none⟩) (by have := HgX.out; show w.heap.size ≠ g9; omega) (.slice A7 u.length c7))
            have HT := hid (HT.out.setCell (p := ⟨g9, 9, none⟩) (Or.inl (by simp)) (.slice A7 u.length c7))
            have HR9n : Hid (Ob _ g9 26 #[.int .i64 sv, .int .i64 pid, .bool false, .bool mo, .int .i64 (of2 + (Nn : Int)), .int .i64 lf, .int .i64 pr, .int .u32 fr, .int .u32 to, .slice A7 u.length c7, .slice (some ⟨eb, eo + Nn, none⟩) (d2.length - Nn) (ec - Nn)]) := hid (HR9.out.set 9 (.slice A7 u.length c7))
            clear HR9
            have HR9 := HR9n
            clear HR9n
            try simp only [Act.put, List.setIfInBounds_toArray, List.set_cons_zero, List.set_cons_succ]
            refine rgn.Walk.zs (NoPanic.normal ?_)
            have O3 : Hid (Only [g9] w9 _) := hid ((HQ.out.more (by simp)).trans HT.out)
            have hb8 : w.heap.size ≤ _ := Nat.le_trans Q9.out.size HQ.out.size
            have K8 := KK.of_one HT.out hb8 HR9p.out HgB.out (by decide)
            have K3 := KK.of_one O3.out Q9.out.size HR9w.out HgB.out (by decide)
            have hV9 := own_only HV9.out O3.out (fun i hi hm => by have h1 := (own_lt HV9.out i hi).1; have h2 := HgV.out; simp at hm; omega)
            go_wp2_with fail
            go_roundg f
            case rel => exact ⟨_, M ++ [q], of2 + (Nn : Int), A7, c7, u, some ⟨eb, eo + Nn, none⟩, ec - Nn, d2.drop Nn, rfl, hid (by rw [List.length_drop]; have := HGk.out; omega), hid (by rw [List.length_drop]; exact HR9.out), HBx, hid (by simpa using hV9), hid (HPD9.out.keep K3), hid (HOu.out.keep K8), hid (by rw [List.length_drop]; exact (HEd9.out.drop (by omega)).keep K3), HUf, HUl, HIv9, HDt9, HOff9, hid (Only.fresh Q9.out O3.out (fun i hi => .inr (by have := HgB.out; simp at hi; omega))), hid (Nat.le_trans HB9.out O3.out.size), hid (HX9.out _ HUc.out)⟩
            case measure => omega
end Go.Proofs.Ytngaolagifgfjaa.ip
