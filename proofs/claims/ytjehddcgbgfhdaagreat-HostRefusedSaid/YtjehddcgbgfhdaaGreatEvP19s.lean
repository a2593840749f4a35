/-
  Chapter 19: known, and the sums. Conditions: none.
-/
import Derived.Test.YtjehddcgbgfhdaaGreatEvP19
import Derived.Test.YtjehddcgbgfhdaaGreatEvU
namespace Go.Proofs.YtjehddcgbgfhdaaGreat.ev
set_option maxRecDepth 1000000
theorem sumsOK : ∀ p ∈ [(124, true), (185, false)], SumC p.1 p.2 := by
  intro p hp
  simp only [List.mem_cons, List.not_mem_nil, or_false] at hp
  rcases hp with rfl | rfl
  · exact ⟨by kernel_rfl, fun w A n c l h hn => oct.sum1 w A n c l h hn⟩
  · exact ⟨by kernel_rfl, fun w A n c l h hn => oct.part w A n c l h hn⟩
end Go.Proofs.YtjehddcgbgfhdaaGreat.ev
