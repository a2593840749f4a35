/-
  Chapter 3: what is not there, whatever is asked of it. Conditions: none.
-/
import Derived.Test.YtnachendenodkaaEvN
namespace Go.Proofs.Ytnachendenodkaa.ev
set_option maxRecDepth 1000000
theorem known (w : World) : Calls Try.prog 11 #[] w (fun e w' => e = .returned (.bool true) ∧ Only [] w w') :=
  law (f := 300) (args := []) (by kernel_rfl) rfl w
theorem wheelOfNothing (w : World) (a b : Int) : Calls Try.prog 6 #[.int .i64 a, .int .i64 b] w (fun e w' => e = .returned (.bool true) ∧ Only [] w w') :=
  law (f := 300) (args := [.int .i64 a, .int .i64 b]) (by kernel_rfl) rfl w
end Go.Proofs.Ytnachendenodkaa.ev
