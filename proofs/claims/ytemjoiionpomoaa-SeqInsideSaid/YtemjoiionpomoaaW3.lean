/-
  Contracts of the functions of chapter 12 (seq), each by a walk of its text, part 3. Conditions: none but those typed.
-/
import Derived.Test.YtemjoiionpomoaaW2
namespace Go.Proofs.Ytemjoiionpomoaa
set_option linter.unusedVariables false
set_option linter.unusedSimpArgs false
open Go.ChangeShapes Go.WideShapes Go.ChangeAt Go.RowKit Go.IntWalk
set_option maxHeartbeats 4000000 in
theorem trim2a (p n q m : Int) (w : World) (hn : n < 1 ∨ m < 1) :
    Calls Try.prog 21 #[.int .u32 p, .int .i64 n, .int .u32 q, .int .i64 m] w fun e w' => e = .returned (.tuple #[.int .i64 (trF p n q m), .int .i64 (trM p n q m)]) ∧ w' = w := by
  have h0 : trM p n q m = 0 := by unfold trM; rcases hn with h | h <;> simp [h]
  have h1 : trF p n q m = 0 := by unfold trF; simp [h0]
  rw [h0, h1]
  by_cases h2 : n < 2147483647 <;> by_cases h3 : m < 2147483647
  · rcases hn with h | h
    all_goals
      go_enter Try.func21, Try.ntmps21
      go_wp2_with (first | (go_at_call 10; refine (diff2 _ _ _).mono ?_; rintro e w' ⟨rfl, rfl⟩))
    all_goals
      go_ret2
      exact ⟨rfl, rfl⟩
  · have h : n < 1 := by omega
    go_enter Try.func21, Try.ntmps21
    go_wp2_with (first | (go_at_call 10; refine (diff2 _ _ _).mono ?_; rintro e w' ⟨rfl, rfl⟩))
    all_goals
      go_ret2
      exact ⟨rfl, rfl⟩
  · have h : m < 1 := by omega
    go_enter Try.func21, Try.ntmps21
    go_wp2_with (first | (go_at_call 10; refine (diff2 _ _ _).mono ?_; rintro e w' ⟨rfl, rfl⟩))
    all_goals
      go_ret2
      exact ⟨rfl, rfl⟩
  · omega
set_option maxHeartbeats 4000000 in
theorem trim2b (p n q m : Int) (w : World) (hn : 0 < n) (hm : 0 < m) :
    Calls Try.prog 21 #[.int .u32 p, .int .i64 n, .int .u32 q, .int .i64 m] w fun e w' => e = .returned (.tuple #[.int .i64 (trF p n q m), .int .i64 (trM p n q m)]) ∧ w' = w := by
  have hd := dif_bd p q
  by_cases h1 : n < 2147483647 <;> by_cases h2 : m < 2147483647 <;> by_cases h3 : dif p q ≤ 0
  all_goals
    by_cases h4 : min m 2147483647 - max (dif p q) 0 < min n 2147483647 - max (-dif p q) 0 <;> by_cases h5 : 0 < min (min n 2147483647 - max (-dif p q) 0) (min m 2147483647 - max (dif p q) 0)
    all_goals
      simp only [h1, h2, Int.min_def, Int.max_def] at h4 h5
      go_enter Try.func21, Try.ntmps21
      go_wp2_with (first | (go_at_call 10; refine (diff2 _ _ _).mono ?_; rintro e w' ⟨rfl, rfl⟩))
  all_goals
    go_ret2
    exact trim_end p n q m _ _ hn hm (by omega) (by omega) _
theorem trim1 (p n q m : Int) (w : World) :
    Calls Try.prog 20 #[.int .u32 p, .int .i64 n, .int .u32 q, .int .i64 m] w fun e w' => e = .returned (.tuple #[.int .i64 (trF p n q m), .int .i64 (trM p n q m)]) ∧ w' = w := by
  by_cases h : n < 1 ∨ m < 1
  · exact trim1a p n q m w h
  · exact trim1b p n q m w (by omega) (by omega)
theorem trim2 (p n q m : Int) (w : World) :
    Calls Try.prog 21 #[.int .u32 p, .int .i64 n, .int .u32 q, .int .i64 m] w fun e w' => e = .returned (.tuple #[.int .i64 (trF p n q m), .int .i64 (trM p n q m)]) ∧ w' = w := by
  by_cases h : n < 1 ∨ m < 1
  · exact trim2a p n q m w h
  · exact trim2b p n q m w (by omega) (by omega)
theorem trM_le (p n q m : Int) : 0 ≤ trM p n q m ∧ trM p n q m ≤ 2147483647 ∧ 0 ≤ trF p n q m ∧ trF p n q m ≤ 2147483648 := by
  have hd := dif_bd p q
  unfold trF trM; omega
end Go.Proofs.Ytemjoiionpomoaa
