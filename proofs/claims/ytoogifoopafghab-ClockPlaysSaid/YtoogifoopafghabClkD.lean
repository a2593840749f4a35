/-
  Chapter 15 (clock): what the functions of the document's answer do to their object, by a walk of each text. Conditions: the numbers of the object lie in their bounds.
-/
import Derived.Test.YtoogifoopafghabClkB
namespace Go.Proofs.Ytoogifoopafghab.clk
set_option linter.unusedVariables false
set_option linter.unusedSimpArgs false
open Go.ChangeShapes Go.WideShapes Go.ChangeAt Go.RowKit Go.IntWalk Go.Lib
set_option maxHeartbeats 1000000 in
theorem refSample (g : Nat) (w : World) (s : Bool) (t sm va db : Int) (h : Ref w g s sm va db) (hs : 0 ≤ sm ∧ sm ≤ 8388608) (hv : 0 ≤ va ∧ va ≤ 8388608) :
   Calls Try.prog 24 #[.pointer (some ⟨g, 0, none⟩), .int .i64 t] w fun e w' => e = .returned (.tuple #[]) ∧ Only [g] w w' ∧ Ref w' g true (smF s sm t) (vaF s sm va t) 0 := by
  have c0 := h.cell 0
  have c1 := h.cell 1
  have c2 := h.cell 2
  have c3 := h.cell 3
  have f0 := h.frozen 0
  have f1 := h.frozen 1
  have f2 := h.frozen 2
  have f3 := h.frozen 3
  unfold smF vaF
  have H := hid h; clear h
  have HCL : Hid (clip t = if t < 1 then 1 else if 1048576 < t then 1048576 else t) := hid rfl
  cases s
  all_goals
    go_enter Try.func24, Try.ntmps24
    go_wp2
  all_goals
    first
      | (refine bodyPost_ret (results_none rfl _ _ _) rfl ?_
         exact ⟨rfl, by repeat (first | exact Only.refl _ _ | refine Only.setCell ?_ (Or.inl (by simp)) _), Ref.mk ((((H.out.set 3 _).set 0 _).set 1 _).set 2 _) rfl (by have q := HCL.out; omega) (by have q := HCL.out; omega) rfl⟩)
      | (refine stillTail 18 (by kernel_rfl) (by kernel_rfl) ?_
         intro W hW
         have o := Ob.eq_drew ((H.out.set 3 _).set 1 _) hW
         have hO : Hid (Only [g] w W) := Only.eq_drew (by repeat (first | exact Only.refl _ _ | refine Only.setCell ?_ (Or.inl (by simp)) _)) hW
         have d0 := o.cell 0
         have d1 := o.cell 1
         have d2 := o.cell 2
         have d3 := o.cell 3
         have e0 := o.frozen 0
         have e1 := o.frozen 1
         have e2 := o.frozen 2
         have e3 := o.frozen 3
         have HO := hid o
         have HW := hid hW
         clear o hW c0 c1 c2 c3 f0 f1 f2 f3
         simp only [List.take_succ_cons, List.take_zero, List.drop_succ_cons, List.drop_zero]
         repeat still_step
         refine wpStill_nil ?_
         go_wp2
         all_goals
           refine bodyPost_end (results_none rfl _ _ _) rfl ?_
           exact ⟨rfl, hO.out.setCell (Or.inl (by simp)) _, Ref.mk (HO.out.set 2 _) rfl (by have q := HCL.out; omega) (by have q := HCL.out; omega) rfl⟩)
theorem refCalm (g : Nat) (w : World) (s : Bool) (sm va db : Int) (h : Ref w g s sm va db) :
   Calls Try.prog 28 #[.pointer (some ⟨g, 0, none⟩)] w fun e w' => e = .returned (.tuple #[]) ∧ Only [g] w w' ∧ Ref w' g s sm va 0 := by
  have c3 := h.cell 3
  have f3 := h.frozen 3
  have H := hid h
  clear h
  go_enter Try.func28, Try.ntmps28
  go_wp2
  refine bodyPost_end (results_none rfl _ _ _) rfl ?_
  exact ⟨rfl, (Only.refl _ _).setCell (Or.inl (by simp)) _, H.out.set 3 _⟩
theorem refBack (g : Nat) (w : World) (s : Bool) (sm va : Int) (k : Nat) (h : Ref w g s sm va k) (hk : k ≤ 1000) :
   Calls Try.prog 26 #[.pointer (some ⟨g, 0, none⟩)] w fun e w' => e = .returned (.tuple #[]) ∧ Only [g] w w' ∧ Ref w' g s sm va (min (k + 1) 64 : Nat) := by
  have c3 := h.cell 3
  have f3 := h.frozen 3
  have H := hid h
  clear h
  go_enter Try.func26, Try.ntmps26
  go_wp2
  all_goals
    refine bodyPost_end (results_none rfl _ _ _) rfl ?_
    exact ⟨rfl, (Only.refl _ _).setCell (Or.inl (by simp)) _, Ref.mk (H.out.set 3 _) rfl rfl rfl (by omega)⟩
theorem wt_stay (b : Int) (hb : 10 ≤ b ∧ b ≤ 600) (j : Nat) (h : wt b j = 600) : ∀ k, j ≤ k → wt b k = 600 := by
  intro k hk
  induction k with
  | zero => obtain rfl : j = 0 := by omega
            exact h
  | succ n ih =>
    by_cases hj : j = n + 1
    · subst hj; exact h
    · have := ih (by omega); simp only [wt, this]; decide
theorem refWait_true (g : Nat) (w : World) (sm va : Int) (k : Nat) (h : Ref w g true sm va k) (hs : 0 ≤ sm ∧ sm ≤ 8388608) (hv : 0 ≤ va ∧ va ≤ 8388608) (hk : k ≤ 1000):
   Calls Try.prog 31 #[.pointer (some ⟨g, 0, none⟩)] w fun e w' => e = .returned (.int .i64 (wt (base true sm va) k)) ∧ ∃ n, w' = w.drewN n := by
  have c0 := h.cell 0
  have c1 := h.cell 1
  have c2 := h.cell 2
  have c3 := h.cell 3
  have HW' := hid (wt_bd (base true sm va) (base_bd true sm va))
  have HS := hid (wt_stay (base true sm va) (base_bd true sm va))
  have HB' : Hid (base true sm va = if sm / 8 + max va 1 < 10 then 10 else if 600 < sm / 8 + max va 1 then 600 else sm / 8 + max va 1) := hid (by unfold base; simp)
  clear h
  go_enter Try.func31, Try.ntmps31
  go_wp2
  try go_quiet (fail)
  try go_wp2
  all_goals
    go_loop [3, 4] (fun v i => ∃ j : Nat, j ≤ k ∧ i = .int .i64 j ∧ v = .int .i64 (wt (base true sm va) j)) (fun _ i => k - (intOf i).toNat)
    case atStart => exact ⟨0, by omega, rfl, by have q := HB'.out; simp only [wt]; first | (rw [q]; done) | (congr 1; omega)⟩
    case round =>
      obtain ⟨j, hj, rfl, rfl⟩ := hrel
      have b1 := HW'.out j
      have hw : Hid (wt (base true sm va) (j + 1) = min (2 * wt (base true sm va) j) 600) := hid rfl
      by_cases hlt : j < k
      · by_cases h6 : wt (base true sm va) j < 600
        · go_wp2
          all_goals
            go_round
            case rel => exact ⟨j + 1, by omega, by go_num, by congr 1; have q := hw.out; omega⟩
            case measure => simp [intOf]; omega
        · have hf := hid (HS.out j (by omega) k hj)
          go_wp2
          go_ret
          exact ⟨rInt (by rw [hf.out]; omega), by first | exact ⟨_, rfl⟩ | exact ⟨0, rfl⟩⟩
      · obtain rfl : j = k := by omega
        go_wp2
        go_ret
        exact ⟨rfl, by first | exact ⟨_, rfl⟩ | exact ⟨0, rfl⟩⟩
theorem refWait_false (g : Nat) (w : World) (sm va : Int) (k : Nat) (h : Ref w g false sm va k) (hs : 0 ≤ sm ∧ sm ≤ 8388608) (hv : 0 ≤ va ∧ va ≤ 8388608) (hk : k ≤ 1000):
   Calls Try.prog 31 #[.pointer (some ⟨g, 0, none⟩)] w fun e w' => e = .returned (.int .i64 (wt (base false sm va) k)) ∧ ∃ n, w' = w.drewN n := by
  have c0 := h.cell 0
  have c1 := h.cell 1
  have c2 := h.cell 2
  have c3 := h.cell 3
  have HW' := hid (wt_bd (base false sm va) (base_bd false sm va))
  have HS := hid (wt_stay (base false sm va) (base_bd false sm va))
  have HB' : Hid (base false sm va = 30) := hid (by unfold base; simp)
  clear h
  go_enter Try.func31, Try.ntmps31
  go_wp2
  try go_quiet (fail)
  try go_wp2
  all_goals
    go_loop [3, 4] (fun v i => ∃ j : Nat, j ≤ k ∧ i = .int .i64 j ∧ v = .int .i64 (wt (base false sm va) j)) (fun _ i => k - (intOf i).toNat)
    case atStart => exact ⟨0, by omega, rfl, by have q := HB'.out; simp only [wt]; first | (rw [q]; done) | (congr 1; omega)⟩
    case round =>
      obtain ⟨j, hj, rfl, rfl⟩ := hrel
      have b1 := HW'.out j
      have hw : Hid (wt (base false sm va) (j + 1) = min (2 * wt (base false sm va) j) 600) := hid rfl
      by_cases hlt : j < k
      · by_cases h6 : wt (base false sm va) j < 600
        · go_wp2
          all_goals
            go_round
            case rel => exact ⟨j + 1, by omega, by go_num, by congr 1; have q := hw.out; omega⟩
            case measure => simp [intOf]; omega
        · have hf := hid (HS.out j (by omega) k hj)
          go_wp2
          go_ret
          exact ⟨rInt (by rw [hf.out]; omega), by first | exact ⟨_, rfl⟩ | exact ⟨0, rfl⟩⟩
      · obtain rfl : j = k := by omega
        go_wp2
        go_ret
        exact ⟨rfl, by first | exact ⟨_, rfl⟩ | exact ⟨0, rfl⟩⟩
theorem refWait (g : Nat) (w : World) (s : Bool) (sm va : Int) (k : Nat) (h : Ref w g s sm va k) (hs : 0 ≤ sm ∧ sm ≤ 8388608) (hv : 0 ≤ va ∧ va ≤ 8388608) (hk : k ≤ 1000):
   Calls Try.prog 31 #[.pointer (some ⟨g, 0, none⟩)] w fun e w' => e = .returned (.int .i64 (wt (base s sm va) k)) ∧ ∃ n, w' = w.drewN n := by
  cases s
  · exact refWait_false g w sm va k h hs hv hk
  · exact refWait_true g w sm va k h hs hv hk
end Go.Proofs.Ytoogifoopafghab.clk
