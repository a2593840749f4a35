/-
  Chapter 13: what is known of known(). Conditions: none.
-/
import Derived.Test.YtbjmckmajpdglaaEvS
namespace Go.Proofs.Ytbjmckmajpdglaa.ev
set_option maxRecDepth 1000000
theorem known (w : World) : Calls Try.prog 9 #[] w (fun e w' => e = .returned (.bool true) ∧ Only [] w w') :=
  law (f := 300) (args := []) (by kernel_rfl) rfl w
end Go.Proofs.Ytbjmckmajpdglaa.ev
