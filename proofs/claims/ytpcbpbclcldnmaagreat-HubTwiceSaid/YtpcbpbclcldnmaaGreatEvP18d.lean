/-
  Chapter 18: Drop has a body. Conditions: none.
-/
import Derived.Test.YtpcbpbclcldnmaaGreatEvP18
import Derived.Test.YtpcbpbclcldnmaaGreatEvDf
namespace Go.Proofs.YtpcbpbclcldnmaaGreat.ev
theorem dropBody : ∀ k ∈ [16], ∃ fn, Tryz.prog.funcs[k]? = some fn ∧ (fn.name == "runtime.NumGoroutine") = false ∧ fn.body.isNone = false := by
  intro k hk
  simp only [List.mem_cons, List.not_mem_nil, or_false] at hk
  subst hk
  exact bodyOf (by kernel_rfl)
end Go.Proofs.YtpcbpbclcldnmaaGreat.ev
