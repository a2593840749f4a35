/-
  Chapter 23 (lease): the law LeaseEncodes, by a walk of its text. Conditions: none but those typed.
-/
import Derived.Test.YtdpmjghdmpaehaaLsF
import Derived.Test.YtdpmjghdmpaehaaLsG
import Derived.Test.YtdpmjghdmpaehaaLsH
import Derived.Test.YtdpmjghdmpaehaaHlp23
import Derived.Test.YtdpmjghdmpaehaaEvP23k
namespace Go.Proofs.Ytdpmjghdmpaehaa.ls
set_option linter.unusedVariables false
set_option linter.unusedSimpArgs false
open Go.ChangeShapes Go.WideShapes Go.ChangeAt Go.RowKit Go.IntWalk Go.Lib
set_option maxRecDepth 100000 in
set_option maxHeartbeats 8000000 in
theorem bad (w : World) (op id yo c0 c1 c2 c3 c4 c5 ty sv ak ti mk ro re : Int) (C : Array Value) (HCe : Hid (C = #[.int .i64 op, .int .u32 id, .int .u32 yo, .int .u8 c0, .int .u8 c1, .int .u8 c2, .int .u8 c3, .int .u8 c4, .int .u8 c5, .int .i64 ty, .int .u32 sv, .int .u32 ak, .int .i64 ti, .int .u32 mk, .int .u32 ro, .int .u32 re])) (hg : ¬ Good op ty ti) :
    Calls Try.prog 3 #[.agg C] w fun x w' => x = .returned (.bool true) ∧ Only [] w w' := by
  have HE1 : Hid (∀ W, Calls Try.prog 10 #[.agg C] W fun x w' => x = .returned (.tuple #[.slice none 0 0, .int .i64 1]) ∧ Only [] W w') := hid (fun W => by rw [HCe.out]; exact enc01 W op id yo c0 c1 c2 c3 c4 c5 ty sv ak ti mk ro re hg)
  have HE2 : Hid (∀ W, Calls Try.prog 11 #[.agg C] W fun x w' => x = .returned (.tuple #[.slice none 0 0, .int .i64 1]) ∧ Only [] W w') := hid (fun W => by rw [HCe.out]; exact enc02 W op id yo c0 c1 c2 c3 c4 c5 ty sv ak ti mk ro re hg)
  have hz : C.size = 16 := by rw [HCe.out]; rfl
  obtain ⟨W1, hW1⟩ : ∃ W1, w.alloc (.cells C 27) = W1 := ⟨_, rfl⟩
  have OB : Hid (Ob W1 w.heap.size 27 C) := hid (by rw [← hW1]; exact Ob.new _ _ _)
  have Q1 : Hid (Only [] w W1) := hid (by rw [← hW1]; exact (Only.refl [] w).alloc _)
  go_enter Try.func3, Try.ntmps3
  go_wp2_with (first | (refine wp_loadOb rfl 27 _ rfl w.heap.size rfl C 27 OB.out Try.underlying27 rfl (by rw [hz]; kernel_rfl) ?_; try simp only [Act.put, List.setIfInBounds_toArray, List.set_cons_zero, List.set_cons_succ]) | fail)
  clear hW1
  refine (HE1.out W1).mono ?_
  rintro x w2 ⟨rfl, o2⟩
  have Q2 := hid (Q1.out.trans o2); have OB := hid (OB.out.only o2 (by simp))
  clear o2
  go_wp2_with (first | (refine wp_loadOb rfl 27 _ rfl w.heap.size rfl C 27 OB.out Try.underlying27 rfl (by rw [hz]; kernel_rfl) ?_; try simp only [Act.put, List.setIfInBounds_toArray, List.set_cons_zero, List.set_cons_succ]) | fail)
  refine (HE2.out w2).mono ?_
  rintro x w3 ⟨rfl, o3⟩
  have Q3 := hid (Q2.out.trans o3)
  clear o3
  go_wp2_with fail
  refine (hlp.same w3 none none 0 0 0 0 [] [] (Rd.nil _ _ _) (Rd.nil _ _ _) (by omega) (by omega)).mono ?_
  rintro x w4 ⟨rfl, nq, hw4⟩
  rw [decide_eq_true rfl]
  have o4 := (Only.refl [] w3).drewN nq; rw [← hw4] at o4
  have Q4 := hid (Q3.out.trans o4)
  clear o4 hw4
  go_wp2_with fail
  refine (ev.known _).mono ?_
  rintro x w9 ⟨rfl, o9⟩
  have Q9 := hid (Q4.out.trans o9); clear o9
  go_wp2_with fail
  go_ret
  exact ⟨rfl, Q9.out⟩
set_option maxRecDepth 100000 in
set_option maxHeartbeats 8000000 in
theorem good (w : World) (op id yo c0 c1 c2 c3 c4 c5 ty sv ak ti mk ro re : Int) (C : Array Value) (HCe : Hid (C = #[.int .i64 op, .int .u32 id, .int .u32 yo, .int .u8 c0, .int .u8 c1, .int .u8 c2, .int .u8 c3, .int .u8 c4, .int .u8 c5, .int .i64 ty, .int .u32 sv, .int .u32 ak, .int .i64 ti, .int .u32 mk, .int .u32 ro, .int .u32 re])) (hg : Good op ty ti) (ub : U32 id ∧ U32 yo ∧ U32 sv ∧ U32 ak ∧ U32 mk ∧ U32 ro ∧ U32 re) (hc : ∀ z ∈ [c0, c1, c2, c3, c4, c5], (Lit.int .u8 z).wf = true) :
    Calls Try.prog 3 #[.agg C] w fun x w' => x = .returned (.bool true) ∧ Only [] w w' := by
  have HUB := hid ub; have HG := hid hg
  have HLen : Hid ((enc op id yo c0 c1 c2 c3 c4 c5 ty sv ak ti mk ro re).length ≤ 300) := hid (by
    rw [enc_at, List.length_append, head_len, obs_opts]
    have h1 := opt_len 54 sv; have h2 := opt_len 50 ak; have h3 := opt_len 51 ti; have h4 := opt_len 1 mk; have h5 := opt_len 3 ro; have h6 := opt_len 6 re
    simp only [List.length_append, List.length_cons, List.length_nil]
    omega)
  have HPos : Hid (0 < (enc op id yo c0 c1 c2 c3 c4 c5 ty sv ak ti mk ro re).length) := hid (by rw [enc_at, List.length_append, head_len]; omega)
  obtain ⟨B, hB⟩ : ∃ B, enc op id yo c0 c1 c2 c3 c4 c5 ty sv ak ti mk ro re = B := ⟨_, rfl⟩
  have HB := hid hB
  rw [hB] at HLen HPos
  have HE1 : Hid (∀ W, Calls Try.prog 10 #[.agg C] W fun x w' => ∃ v, x = .returned (.tuple #[v, .int .i64 0]) ∧ Own .u8 5 w' W.heap.size v B ∧ Only [] W w') := hid (fun W => by rw [HCe.out, ← HB.out]; exact enc1 W op id yo c0 c1 c2 c3 c4 c5 ty sv ak ti mk ro re hg hc)
  have HE2 : Hid (∀ W, Calls Try.prog 11 #[.agg C] W fun x w' => ∃ v, x = .returned (.tuple #[v, .int .i64 0]) ∧ Own .u8 5 w' W.heap.size v B ∧ Only [] W w') := hid (fun W => by rw [HCe.out, ← HB.out]; exact enc2 W op id yo c0 c1 c2 c3 c4 c5 ty sv ak ti mk ro re hg hc)
  clear ub hg hc hB
  have hz : C.size = 16 := by rw [HCe.out]; rfl
  obtain ⟨W1, hW1⟩ : ∃ W1, w.alloc (.cells C 27) = W1 := ⟨_, rfl⟩
  have OB : Hid (Ob W1 w.heap.size 27 C) := hid (by rw [← hW1]; exact Ob.new _ _ _)
  have Q1 : Hid (Only [] w W1) := hid (by rw [← hW1]; exact (Only.refl [] w).alloc _)
  go_enter Try.func3, Try.ntmps3
  go_wp2_with (first | (refine wp_loadOb rfl 27 _ rfl w.heap.size rfl C 27 OB.out Try.underlying27 rfl (by rw [hz]; kernel_rfl) ?_; try simp only [Act.put, List.setIfInBounds_toArray, List.set_cons_zero, List.set_cons_succ]) | fail)
  clear hW1
  refine (HE1.out W1).mono ?_
  rintro x w2 ⟨v2, rfl, h2, o2⟩
  have Q2 := hid (Q1.out.trans o2); have OB := hid (OB.out.only o2 (by simp)); have V2 := hid h2
  clear h2 o2
  go_wp2_with (first | (refine wp_loadOb rfl 27 _ rfl w.heap.size rfl C 27 OB.out Try.underlying27 rfl (by rw [hz]; kernel_rfl) ?_; try simp only [Act.put, List.setIfInBounds_toArray, List.set_cons_zero, List.set_cons_succ]) | fail)
  refine (HE2.out w2).mono ?_
  rintro x w3 ⟨v3, rfl, h3, o3⟩
  have Q3 := hid (Q2.out.trans o3); have OB := hid (OB.out.only o3 (by simp)); have V2 := hid (V2.out.only_nil o3)
  obtain ⟨A2, cap2, e2, hnc2, hcm2, r2, _⟩ := V2.out.slice
  obtain ⟨A3, cap3, e3, _, _, r3, _⟩ := h3.slice
  subst e2 e3
  have HR2 := hid r2; have HR3 := hid r3; have HN2 := hid hnc2; have HM2 := hid hcm2
  clear h3 o3 r2 r3 hnc2 hcm2
  obtain ⟨N, hN⟩ : ∃ N, B.length = N := ⟨_, rfl⟩
  rw [hN] at HR2 HR3 HN2 HLen HPos ⊢
  have hl := HLen.out
  clear hN
  go_wp2_with fail
  refine (hlp.same w3 A2 A3 N N cap2 cap3 _ _ HR2.out HR3.out (by omega) (by omega)).mono ?_
  rintro x w4 ⟨rfl, nq, hw4⟩
  rw [decide_eq_true rfl]
  have o4 := (Only.refl [] w3).drewN nq; rw [← hw4] at o4
  have Q4 := hid (Q3.out.trans o4); have OB := hid (OB.out.only o4 (by simp)); have HR4 := hid (HR2.out.only_nil o4)
  clear o4 hw4 HR2 HR3 V2
  go_wp2_with fail
  obtain ⟨bq, oq, hq, _⟩ := HR4.out.cells HPos.out
  subst hq
  have HDec : Hid (Calls Try.prog 14 #[.slice (some ⟨bq, oq, none⟩) N cap2] w4 fun x w' => x = .returned (.tuple #[.agg #[.int .i64 op, .int .u32 id, .int .u32 yo, .int .u8 c0, .int .u8 c1, .int .u8 c2, .int .u8 c3, .int .u8 c4, .int .u8 c5, .int .i64 ty, .int .u32 sv, .int .u32 ak, .int .i64 ti, .int .u32 mk, .int .u32 ro, .int .u32 re], .int .i64 0]) ∧ Only [] w4 w') := hid (by
    have hr4 := HR4.out
    rw [← HB.out] at hr4
    rcases HG.out.1 with h | h
    · exact dec1 w4 op id yo c0 c1 c2 c3 c4 c5 ty sv ak ti mk ro re bq oq N cap2 h HG.out HUB.out hr4 HN2.out HM2.out (by omega)
    · exact dec2 w4 op id yo c0 c1 c2 c3 c4 c5 ty sv ak ti mk ro re bq oq N cap2 h HG.out HUB.out hr4 HN2.out HM2.out (by omega))
  refine HDec.out.mono ?_
  rintro x w5 ⟨rfl, o5⟩
  have OB := hid (OB.out.only o5 (by simp))
  have Q5 := hid (Q4.out.trans o5)
  have hCe := HCe.out
  clear o5 HDec HR4 HE1 HE2 hz
  rw [hCe] at OB ⊢
  clear hCe HCe
  obtain ⟨W6, hW6⟩ : ∃ W6, w5.alloc (.cells #[.int .i64 op, .int .u32 id, .int .u32 yo, .int .u8 c0, .int .u8 c1, .int .u8 c2, .int .u8 c3, .int .u8 c4, .int .u8 c5, .int .i64 ty, .int .u32 sv, .int .u32 ak, .int .i64 ti, .int .u32 mk, .int .u32 ro, .int .u32 re] 27) = W6 := ⟨_, rfl⟩
  have OC : Hid (Ob W6 w5.heap.size 27 #[.int .i64 op, .int .u32 id, .int .u32 yo, .int .u8 c0, .int .u8 c1, .int .u8 c2, .int .u8 c3, .int .u8 c4, .int .u8 c5, .int .i64 ty, .int .u32 sv, .int .u32 ak, .int .i64 ti, .int .u32 mk, .int .u32 ro, .int .u32 re]) := hid (by rw [← hW6]; exact Ob.new _ _ _)
  have o6 : Only [] w5 W6 := by rw [← hW6]; exact (Only.refl [] w5).alloc _
  have Q6 := hid (Q5.out.trans o6); have OB := hid (OB.out.only o6 (by simp))
  have heq := fun W => eqLease2 op id yo c0 c1 c2 c3 c4 c5 ty sv ak ti mk ro re W
  clear o6
  have k0 := OB.out.cell 0; have k1 := OB.out.cell 1; have k2 := OB.out.cell 2; have k3 := OB.out.cell 3; have k4 := OB.out.cell 4; have k5 := OB.out.cell 5; have k6 := OB.out.cell 6; have k7 := OB.out.cell 7; have k8 := OB.out.cell 8; have k9 := OB.out.cell 9; have k10 := OB.out.cell 10; have k11 := OB.out.cell 11; have k12 := OB.out.cell 12; have k13 := OB.out.cell 13; have k14 := OB.out.cell 14; have k15 := OB.out.cell 15
  have n0 := OC.out.cell 0; have n1 := OC.out.cell 1; have n2 := OC.out.cell 2; have n3 := OC.out.cell 3; have n4 := OC.out.cell 4; have n5 := OC.out.cell 5; have n6 := OC.out.cell 6; have n7 := OC.out.cell 7; have n8 := OC.out.cell 8; have n9 := OC.out.cell 9; have n10 := OC.out.cell 10; have n11 := OC.out.cell 11; have n12 := OC.out.cell 12; have n13 := OC.out.cell 13; have n14 := OC.out.cell 14; have n15 := OC.out.cell 15
  go_wp2_with fail
  clear k0 k1 k2 k3 k4 k5 k6 k7 k8 k9 k10 k11 k12 k13 k14 k15
  clear n0 n1 n2 n3 n4 n5 n6 n7 n8 n9 n10 n11 n12 n13 n14 n15
  refine (ev.known _).mono ?_
  rintro x w9 ⟨rfl, o9⟩
  have Q9 := hid (Q6.out.trans o9); clear o9
  go_wp2_with fail
  go_ret
  exact ⟨rfl, Q9.out⟩
theorem encodes (w : World) (op id yo c0 c1 c2 c3 c4 c5 ty sv ak ti mk ro re : Int) (ub : U32 id ∧ U32 yo ∧ U32 sv ∧ U32 ak ∧ U32 mk ∧ U32 ro ∧ U32 re) (hc : ∀ z ∈ [c0, c1, c2, c3, c4, c5], (Lit.int .u8 z).wf = true) :
    Calls Try.prog 3 #[.agg #[.int .i64 op, .int .u32 id, .int .u32 yo, .int .u8 c0, .int .u8 c1, .int .u8 c2, .int .u8 c3, .int .u8 c4, .int .u8 c5, .int .i64 ty, .int .u32 sv, .int .u32 ak, .int .i64 ti, .int .u32 mk, .int .u32 ro, .int .u32 re]] w fun x w' => x = .returned (.bool true) ∧ Only [] w w' := by
  by_cases hg : Good op ty ti
  · exact good w op id yo c0 c1 c2 c3 c4 c5 ty sv ak ti mk ro re _ (hid rfl) hg ub hc
  · exact bad w op id yo c0 c1 c2 c3 c4 c5 ty sv ak ti mk ro re _ (hid rfl) hg
theorem u32W {x : Int} (h : (Lit.int .u32 x).wf = true) : U32 x := by
  have h9 := (Lit.wf_int_iff .u32 x).1 h
  have h1 : IntKind.u32.min = 0 := rfl
  have h2 : IntKind.u32.max = 4294967295 := rfl
  unfold U32; omega
theorem encodesW (w : World) (op id yo c0 c1 c2 c3 c4 c5 ty sv ak ti mk ro re : Int) (h1 : (Lit.int .u32 id).wf = true) (h2 : (Lit.int .u32 yo).wf = true) (h3 : (Lit.int .u8 c0).wf = true) (h4 : (Lit.int .u8 c1).wf = true) (h5 : (Lit.int .u8 c2).wf = true) (h6 : (Lit.int .u8 c3).wf = true) (h7 : (Lit.int .u8 c4).wf = true) (h8 : (Lit.int .u8 c5).wf = true) (h9 : (Lit.int .u32 sv).wf = true) (h10 : (Lit.int .u32 ak).wf = true) (h11 : (Lit.int .u32 mk).wf = true) (h12 : (Lit.int .u32 ro).wf = true) (h13 : (Lit.int .u32 re).wf = true) :
    Calls Try.prog 3 #[.agg #[.int .i64 op, .int .u32 id, .int .u32 yo, .int .u8 c0, .int .u8 c1, .int .u8 c2, .int .u8 c3, .int .u8 c4, .int .u8 c5, .int .i64 ty, .int .u32 sv, .int .u32 ak, .int .i64 ti, .int .u32 mk, .int .u32 ro, .int .u32 re]] w fun x w' => x = .returned (.bool true) ∧ Only [] w w' :=
  encodes w op id yo c0 c1 c2 c3 c4 c5 ty sv ak ti mk ro re ⟨u32W h1, u32W h2, u32W h9, u32W h10, u32W h11, u32W h12, u32W h13⟩ (fun z hz => by
    simp only [List.mem_cons, List.not_mem_nil, or_false] at hz
    rcases hz with rfl | rfl | rfl | rfl | rfl | rfl
    · exact h3
    · exact h4
    · exact h5
    · exact h6
    · exact h7
    · exact h8)
end Go.Proofs.Ytdpmjghdmpaehaa.ls
