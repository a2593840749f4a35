/-
  Chapter 21 (name): the document's head of a record, by a walk of its text. Conditions: none but those typed.
-/
import Derived.Test.YtfoecnlbiaiibaaNamHe
import Derived.Test.YtfoecnlbiaiibaaRef1
namespace Go.Proofs.Ytfoecnlbiaiibaa.nam
set_option linter.unusedVariables false
set_option linter.unusedSimpArgs false
open Go.ChangeShapes Go.WideShapes Go.ChangeAt Go.RowKit Go.IntWalk Go.Lib
set_option maxHeartbeats 4000000 in
theorem headD (w : World) (s : ByteArray) (ty cl ttl : Int) (A : Option Addr) (n c : Nat) (hs : s.size ≤ maxLen) :
    Calls Try.prog 37 #[.agg #[.string s, .int .i64 ty, .int .i64 cl, .int .i64 ttl, .slice A n c]] w fun x w' => ∃ v, x = .returned v ∧ Own .u8 5 w' w.heap.size v (hd s ty cl) ∧ Only [] w w' := by
  have hpz := packs_size (chs s)
  have HHd : Hid (hd s ty cl = (packs (chs s)).1 ++ ref.two ty ++ ref.two cl) := hid (hd_eq s ty cl)
  obtain ⟨W0, hW0⟩ : ∃ W0, w.alloc (.cells #[.string s, .int .i64 ty, .int .i64 cl, .int .i64 ttl, .slice A n c] 46) = W0 := ⟨_, rfl⟩
  have HPD := hid (packD W0 s hs)
  have o0 : Only [] w W0 := by rw [← hW0]; exact (Only.refl [] w).alloc _
  have C0 : Hid (Ob W0 w.heap.size 46 #[.string s, .int .i64 ty, .int .i64 cl, .int .i64 ttl, .slice A n c]) := hid (by rw [← hW0]; exact Ob.new _ _ _)
  have Q0 := hid o0
  have cs0 := C0.out.cell 0
  obtain ⟨P, hP⟩ : ∃ P, (packs (chs s)).1 = P := ⟨_, rfl⟩
  rw [hP] at HHd HPD hpz
  obtain ⟨pn, hpn⟩ : ∃ pn, P.length = pn := ⟨_, rfl⟩
  have HPn := hid hpn
  rw [hpn] at hpz
  have HTn : Hid ((ref.two ty).length = 2) := hid rfl
  clear hP o0 hpn
  go_enter Try.func37, Try.ntmps37
  go_wp2_with fail
  refine HPD.out.mono ?_
  rintro x w1 ⟨vb, rfl, hv1, o1⟩
  have V1 := hid (hv1.mono_base Q0.out.size)
  have C1 := hid (C0.out.only o1 (by simp))
  have Q1 := hid (Q0.out.trans o1)
  clear hv1 o1 hW0 cs0 C0 Q0
  go_wp2_with fail
  refine wp_region_noPanic ?_
  refine rgn.regionT (R := Same w.heap.size) (by kernel_rfl) (Same.refl w.heap.size) (Same.trans (g := w.heap.size)) (fun _ _ _ _ _ h => h) (.y 0 (.y 1 (.y 2 (.y 5 (.y 6 (.e 3 (.e 4 (.e 7 (.e 8 (.e 9 .z)))))))))) (by kernel_rfl) (fun W hWd => ?_)
  have HWd := hid hWd; clear hWd
  have o9 : Only [] w1 W := by rw [HWd.out]; exact (Only.refl [] w1).drew
  have HC := hid (C1.out.only o9 (by simp))
  have HC0 := HC
  have HV := hid (V1.out.only_nil o9)
  have HQ := hid (Q1.out.trans o9)
  clear HWd C1 V1 Q1 o9
  refine rgn.Walk.ys (v := ?_) rfl rfl rfl ?_ ?_
  rotate_left 1
  · intro W' hW'
    go_simp
    try with_reducible rfl
  try simp only [Act.put, List.setIfInBounds_toArray, List.set_cons_zero, List.set_cons_succ]
  refine rgn.Walk.ys (v := ?_) rfl rfl rfl ?_ ?_
  rotate_left 1
  · intro W' hW'
    go_simp
    try with_reducible rfl
  try simp only [Act.put, List.setIfInBounds_toArray, List.set_cons_zero, List.set_cons_succ]
  refine rgn.Walk.ys (v := ?_) rfl rfl rfl ?_ ?_
  rotate_left 1
  · intro W' hW'
    have q0 := (HC0.out.same hW').cell 1
    go_simp
    try with_reducible rfl
  try simp only [Act.put, List.setIfInBounds_toArray, List.set_cons_zero, List.set_cons_succ]
  refine rgn.Walk.ys (v := ?_) rfl rfl rfl ?_ ?_
  rotate_left 1
  · intro W' hW'
    go_simp
    try with_reducible rfl
  try simp only [Act.put, List.setIfInBounds_toArray, List.set_cons_zero, List.set_cons_succ]
  refine rgn.Walk.ys (v := ?_) rfl rfl rfl ?_ ?_
  rotate_left 1
  · intro W' hW'
    have q0 := (HC0.out.same hW').cell 2
    go_simp
    try with_reducible rfl
  try simp only [Act.put, List.setIfInBounds_toArray, List.set_cons_zero, List.set_cons_succ]
  refine rgn.Walk.es ?_
  refine rgn.stepE rfl rfl (fun K hK => ?_)
  go_simp
  refine (ref.two1 _ ty).mono ?_
  rintro x w1 ⟨g1, rfl, ht1, o1⟩
  refine hK _ _ (Same.only o1 HC.out.lt) ?_
  clear hK K
  have HA1 : Hid (vb.ownBlock ≠ some g1) := hid (fun e => by have h1 := (HV.out.lt _ e).2; have h2 := (ht1.lt g1 rfl).1; omega)
  have HT1 := hid ht1
  have HQ := hid (HQ.out.trans o1); have HC := hid (HC.out.only o1 (by simp)); have HV := hid (HV.out.only_nil o1)
  clear ht1 o1
  try simp only [Act.put, List.setIfInBounds_toArray, List.set_cons_zero, List.set_cons_succ]
  refine rgn.Walk.es ?_
  refine rgn.stepE rfl rfl (fun K hK => ?_)
  refine opApp rfl (.tmp 11) (.tmp 14) _ rfl wrt.elemB w.heap.size _ _ rfl HV.out (some ⟨g1, 0, none⟩) 2 2 (ref.two ty) rfl HT1.out.rd (by intro e; cases e) (by rw [HPn.out]; omega) (by rw [HPn.out]; unfold maxLen; omega) HQ.out.size ?_
  intro vb2 wa1 hv1 hg1 hb1
  refine hK _ _ (Same.grown hg1 HC.out.lt (ob_own_ne (by decide) HC.out HV.out.1)) ?_
  clear hK K
  have HC := hid (HC.out.same (Same.grown hg1 HC.out.lt (ob_own_ne (by decide) HC.out HV.out.1)))
  have HQ := hid (HQ.out.of_grown hg1 (fun i hi => .inr (HV.out.lt i hi).1))
  have HV := hid hv1
  clear hv1 hg1 hb1
  try simp only [Act.put, List.setIfInBounds_toArray, List.set_cons_zero, List.set_cons_succ]
  refine rgn.Walk.es ?_
  refine rgn.stepE rfl rfl (fun K hK => ?_)
  go_simp
  refine (ref.two1 _ cl).mono ?_
  rintro x w2 ⟨g2, rfl, ht2, o2⟩
  refine hK _ _ (Same.only o2 HC.out.lt) ?_
  clear hK K
  have HA2 : Hid (vb2.ownBlock ≠ some g2) := hid (fun e => by have h1 := (HV.out.lt _ e).2; have h2 := (ht2.lt g2 rfl).1; omega)
  have HT2 := hid ht2
  have HQ := hid (HQ.out.trans o2); have HC := hid (HC.out.only o2 (by simp)); have HV := hid (HV.out.only_nil o2)
  clear ht2 o2
  try simp only [Act.put, List.setIfInBounds_toArray, List.set_cons_zero, List.set_cons_succ]
  refine rgn.Walk.es ?_
  refine rgn.stepE rfl rfl (fun K hK => ?_)
  refine opApp rfl (.tmp 15) (.tmp 18) _ rfl wrt.elemB w.heap.size _ _ rfl HV.out (some ⟨g2, 0, none⟩) 2 2 (ref.two cl) rfl HT2.out.rd (by intro e; cases e) (by rw [List.length_append, HPn.out, HTn.out]; omega) (by rw [List.length_append, HPn.out, HTn.out]; unfold maxLen; omega) HQ.out.size ?_
  intro vb3 wa2 hv2 hg2 hb2
  refine hK _ _ (Same.grown hg2 HC.out.lt (ob_own_ne (by decide) HC.out HV.out.1)) ?_
  clear hK K
  have HC := hid (HC.out.same (Same.grown hg2 HC.out.lt (ob_own_ne (by decide) HC.out HV.out.1)))
  have HQ := hid (HQ.out.of_grown hg2 (fun i hi => .inr (HV.out.lt i hi).1))
  have HV := hid hv2
  clear hv2 hg2 hb2
  try simp only [Act.put, List.setIfInBounds_toArray, List.set_cons_zero, List.set_cons_succ]
  refine rgn.Walk.es ?_
  refine rgn.stepE rfl rfl (fun K hK => ?_)
  go_simp
  refine hK _ _ ((Same.refl w.heap.size) _) ?_
  clear hK K
  try simp only [Act.put, List.setIfInBounds_toArray, List.set_cons_zero, List.set_cons_succ]
  refine rgn.Walk.zs (NoPanic.normal ?_)
  go_wp2_with fail
  go_ret
  refine ⟨_, rfl, ?_, HQ.out⟩
  rw [HHd.out]
  exact HV.out
end Go.Proofs.Ytfoecnlbiaiibaa.nam
