/-
  Chapter 9 (icmp): messages, by a walk of each text, part D. Conditions: none but those typed.
-/
import Derived.Test.YtekanilgeigddaaIcmC
namespace Go.Proofs.Ytekanilgeigddaa.icm
set_option linter.unusedVariables false
set_option linter.unusedSimpArgs false
open Go.ChangeShapes Go.WideShapes Go.ChangeAt Go.RowKit Go.IntWalk Go.Lib
theorem Rb.mk {w : World} {g : Nat} {a a' b b' c c' d d' : Int} (h : Ob w g 82 #[.int .i64 a, .int .i64 b, .int .i64 c, .int .i64 d]) (e0 : a = a') (e1 : b = b') (e2 : c = c') (e3 : d = d') : Rb w g a' b' c' d' := by
  subst e0 e1 e2 e3; exact h
set_option maxRecDepth 100000 in
set_option maxHeartbeats 4000000 in
theorem take2 (w : World) (g : Nat) (most every tok last now : Int) (h : Rb w g most every tok last) (hm : 1 ≤ most ∧ most ≤ 1048576) (hev : 1 ≤ every ∧ every ≤ 1048576) (ht : 0 ≤ tok ∧ tok ≤ most) (hl : 0 ≤ last ∧ last < now) (hn : now ≤ 4611686018427387904) :
    Calls Try.prog 30 #[.pointer (some ⟨g, 0, none⟩), .int .i64 now] w fun x w' => x = .returned (.bool (decide (tokF most every tok last now ≠ 0))) ∧ Only [g] w w' ∧ Rb w' g most every (tokF most every tok last now - (if tokF most every tok last now = 0 then 0 else 1)) now := by
  have c0 := h.cell 0
  have c1 := h.cell 1
  have c2 := h.cell 2
  have c3 := h.cell 3
  have H := hid h; clear h
  have q1 : 0 ≤ now / every := Int.ediv_nonneg (by omega) (by omega)
  have q2 : 0 ≤ last / every := Int.ediv_nonneg (by omega) (by omega)
  have q3 : now / every ≤ now := Int.ediv_le_self _ (by omega)
  have q4 : last / every ≤ now / every := Int.ediv_le_ediv (by omega) (by omega)
  have k1 : IntKind.i64.wrap (now.tdiv every) = now / every := i64_quo _ _ (by omega)
  have k2 : IntKind.i64.wrap (last.tdiv every) = last / every := i64_quo _ _ (by omega)
  have hz : ¬ every = 0 := by omega
  have K1 := hid k1; have K2 := hid k2
  clear k1 k2
  have HF0 : tokF most every tok last now = min most (tok + (now / every - last / every)) := rfl
  by_cases hT : min most (tok + (now / every - last / every)) = 0
  · have HF : Hid (tokF most every tok last now = 0) := hid (by omega)
    clear HF0
    go_enter Try.func30, Try.ntmps30
    go_wp2
    go_quiet (fail)
    have r1 := K1.out
    have r2 := K2.out
    go_wp2
    refine stillTail 19 (by kernel_rfl) (by kernel_rfl) ?_
    intro W hW
    have o := Ob.eq_drew (H.out.drewN nq) hW
    have hO : Hid (Only [g] w W) := hid (Only.eq_drew (by repeat (first | exact Only.refl _ _ | refine Only.setCell ?_ (Or.inl (by simp)) _ | refine Only.drewN ?_ _ | refine Only.drew ?_)) hW)
    have d0 := o.cell 0
    have d1 := o.cell 1
    have d2 := o.cell 2
    have d3 := o.cell 3
    have e2 := o.frozen 2
    have e3 := o.frozen 3
    have HO := hid o
    clear o
    clear hW
    simp only [List.take_succ_cons, List.take_zero, List.drop_succ_cons, List.drop_zero]
    repeat still_step
    refine wpStill_nil ?_
    go_wp2
    all_goals
      go_ret
      have q := HF.out
      (first | (exfalso; omega) | exact ⟨rBool (by first | rfl | (rw [q]; rfl)), by repeat (first | exact hO.out | refine Only.setCell ?_ (Or.inl (by simp)) _), by first | exact Rb.mk ((HO.out.set 2 _).set 3 _) rfl rfl (by omega) rfl | (rw [q]; exact Rb.mk ((HO.out.set 2 _).set 3 _) rfl rfl (by simp; omega) rfl)⟩)
  · have HF : Hid (tokF most every tok last now = min most (tok + (now / every - last / every))) := hid HF0
    clear HF0
    go_enter Try.func30, Try.ntmps30
    go_wp2
    go_quiet (fail)
    have r1 := K1.out
    have r2 := K2.out
    go_wp2
    refine stillTail 19 (by kernel_rfl) (by kernel_rfl) ?_
    intro W hW
    have o := Ob.eq_drew (H.out.drewN nq) hW
    have hO : Hid (Only [g] w W) := hid (Only.eq_drew (by repeat (first | exact Only.refl _ _ | refine Only.setCell ?_ (Or.inl (by simp)) _ | refine Only.drewN ?_ _ | refine Only.drew ?_)) hW)
    have d0 := o.cell 0
    have d1 := o.cell 1
    have d2 := o.cell 2
    have d3 := o.cell 3
    have e2 := o.frozen 2
    have e3 := o.frozen 3
    have HO := hid o
    clear o
    clear hW
    simp only [List.take_succ_cons, List.take_zero, List.drop_succ_cons, List.drop_zero]
    repeat still_step
    refine wpStill_nil ?_
    go_wp2
    all_goals
      go_ret
      have q := HF.out
      (first | (exfalso; omega) | exact ⟨rBool (by first | rfl | (rw [q]; simp; omega)), by repeat (first | exact hO.out | refine Only.setCell ?_ (Or.inl (by simp)) _), by first | exact Rb.mk (((HO.out.set 2 _).set 3 _).set 2 _) rfl rfl (by omega) rfl | (rw [q]; exact Rb.mk (((HO.out.set 2 _).set 3 _).set 2 _) rfl rfl (by omega) rfl) | (rw [q]; exact Rb.mk (((HO.out.set 2 _).set 3 _).set 2 _) rfl rfl (by split <;> omega) rfl)⟩)
end Go.Proofs.Ytekanilgeigddaa.icm
