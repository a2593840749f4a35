/-
  Contracts of the functions of chapter 12 (seq), each by a walk of its text, part 2. Conditions: none but those typed.
-/
import Derived.Test.YtemjoiionpomoaaW1
namespace Go.Proofs.Ytemjoiionpomoaa
set_option linter.unusedVariables false
set_option linter.unusedSimpArgs false
open Go.ChangeShapes Go.WideShapes Go.ChangeAt Go.RowKit Go.IntWalk
theorem trM_eq (p n q m d : Int) (hd : d = dif p q) (hn : 0 < n) (hm : 0 < m) : trM p n q m = if min (min n 2147483647) (min m 2147483647 - d) - max (-d) 0 < 1 then 0 else min (min n 2147483647) (min m 2147483647 - d) - max (-d) 0 := by
  subst hd; unfold trM; rw [if_neg (by omega), if_neg (by omega)]
theorem trim_end (p n q m a b : Int) (hn : 0 < n) (hm : 0 < m)
   (h : b = if min (min n 2147483647) (min m 2147483647 - dif p q) - max (-dif p q) 0 < 1 then 0 else min (min n 2147483647) (min m 2147483647 - dif p q) - max (-dif p q) 0)
   (h' : a = if b = 0 then 0 else max (-dif p q) 0) (w : World) :
   Ending.returned (.tuple #[.int .i64 a, .int .i64 b]) = .returned (.tuple #[.int .i64 (trF p n q m), .int .i64 (trM p n q m)]) ∧ w = w := by
  have hM := trM_eq p n q m _ rfl hn hm
  rw [← h] at hM
  refine ⟨rTwo ?_ hM.symm, rfl⟩
  unfold trF; rw [hM, h']
set_option maxHeartbeats 4000000 in
theorem trim1b (p n q m : Int) (w : World) (hn : 0 < n) (hm : 0 < m) :
    Calls Try.prog 20 #[.int .u32 p, .int .i64 n, .int .u32 q, .int .i64 m] w fun e w' => e = .returned (.tuple #[.int .i64 (trF p n q m), .int .i64 (trM p n q m)]) ∧ w' = w := by
  have hd := dif_bd p q
  by_cases h1 : n < 2147483647 <;> by_cases h2 : m < 2147483647 <;> by_cases h3 : dif p q ≤ 0
  all_goals
    by_cases h4 : min m 2147483647 - dif p q < min n 2147483647 <;> by_cases h5 : 0 < min (min n 2147483647) (min m 2147483647 - dif p q) - max (-dif p q) 0
    all_goals
      simp only [h1, h2, Int.min_def, Int.max_def] at h4 h5
      go_enter Try.func20, Try.ntmps20
      go_wp2_with (first | (go_at_call 9; refine (diff1 _ _ _).mono ?_; rintro e w' ⟨rfl, rfl⟩))
  all_goals
    go_ret2
    exact trim_end p n q m _ _ hn hm (by omega) (by omega) _
end Go.Proofs.Ytemjoiionpomoaa
