/-
  Chapter 18: what is known of known(), and of the sums. Conditions: none.
-/
import Derived.Test.YtiiajkfaikeenaaGreatEvU
import Derived.Test.YtiiajkfaikeenaaGreatEvV
namespace Go.Proofs.YtiiajkfaikeenaaGreat.ev
set_option maxRecDepth 1000000
theorem known (w : World) : Calls Tryz.prog 16 #[] w (fun e w' => e = .returned (.bool true) ∧ Only [] w w') :=
  law (f := 300) (args := []) (by kernel_rfl) rfl w
theorem knownBody : ((Tryz.prog.funcs[16]?).any fun fn => fn.body.isSome) = true := by kernel_rfl
theorem sumsOK : ∀ p ∈ [(99, true), (115, false)], SumC p.1 p.2 := by
  intro p hp
  simp only [List.mem_cons, List.not_mem_nil, or_false] at hp
  rcases hp with rfl | rfl
  · exact ⟨by kernel_rfl, fun w A n c l h hn => oct.sum1 w A n c l h hn⟩
  · exact ⟨by kernel_rfl, fun w A n c l h hn => oct.part w A n c l h hn⟩
end Go.Proofs.YtiiajkfaikeenaaGreat.ev
