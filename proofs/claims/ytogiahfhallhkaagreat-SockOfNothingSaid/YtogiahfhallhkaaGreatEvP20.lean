/-
  Chapter 20: what is known of known(). Conditions: none.
-/
import Derived.Test.YtogiahfhallhkaaGreatEvV
namespace Go.Proofs.YtogiahfhallhkaaGreat.ev
set_option maxRecDepth 1000000
set_option linter.unusedSimpArgs false
theorem known (w : World) : Calls Tryz.prog 10 #[] w (fun e w' => e = .returned (.bool true) ∧ Only [] w w') :=
  law (f := 300) (args := []) (by kernel_rfl) rfl w
theorem knownBody : ((Tryz.prog.funcs[10]?).any fun fn => fn.body.isSome) = true := by kernel_rfl
end Go.Proofs.YtogiahfhallhkaaGreat.ev
