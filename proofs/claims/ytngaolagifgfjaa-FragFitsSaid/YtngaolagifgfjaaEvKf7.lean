/-
  Chapter 7: what is known of known(). Conditions: none.
-/
import Derived.Test.YtngaolagifgfjaaEvS
namespace Go.Proofs.Ytngaolagifgfjaa.ev
set_option maxRecDepth 1000000
theorem known (w : World) : Calls Try.prog 18 #[] w (fun e w' => e = .returned (.bool true) ∧ Only [] w w') :=
  law (f := 300) (args := []) (by kernel_rfl) rfl w
end Go.Proofs.Ytngaolagifgfjaa.ev
