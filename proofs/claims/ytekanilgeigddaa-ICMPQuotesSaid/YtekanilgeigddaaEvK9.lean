/-
  Chapter 9: what is known of known(). Conditions: none.
-/
import Derived.Test.YtekanilgeigddaaEvS
namespace Go.Proofs.Ytekanilgeigddaa.ev
set_option maxRecDepth 1000000
theorem known (w : World) : Calls Try.prog 16 #[] w (fun e w' => e = .returned (.bool true) ∧ Only [] w w') :=
  law (f := 300) (args := []) (by kernel_rfl) rfl w
end Go.Proofs.Ytekanilgeigddaa.ev
