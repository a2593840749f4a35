/-
  Chapter 11: what is known of known(). Conditions: none.
-/
import Derived.Test.YtnhakcgkhhficaaEvV
namespace Go.Proofs.Ytnhakcgkhhficaa.ev
set_option maxRecDepth 1000000
set_option linter.unusedSimpArgs false
theorem known (w : World) : Calls Try.prog 18 #[] w (fun e w' => e = .returned (.bool true) ∧ Only [] w w') :=
  law (f := 300) (args := []) (by kernel_rfl) rfl w
theorem knownBody : ((Try.prog.funcs[18]?).any fun fn => fn.body.isSome) = true := by kernel_rfl
end Go.Proofs.Ytnhakcgkhhficaa.ev
