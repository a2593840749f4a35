/-
  A nil Ports: whatever is asked of it. Conditions: none.
-/
import Derived.Test.YtnhakcgkhhficaaEvN
namespace Go.Proofs.Ytnhakcgkhhficaa.ev
set_option maxRecDepth 1000000
theorem known (w : World) : Calls Try.prog 18 #[] w (fun e w' => e = .returned (.bool true) ∧ Only [] w w') :=
  law (f := 60) (args := []) (by kernel_rfl) rfl w
theorem ofNothing (w : World) (a b c : Int) : Calls Try.prog 3 #[.int .i64 a, .int .u32 b, .int .i64 c] w (fun e w' => e = .returned (.bool true) ∧ Only [] w w') :=
  law (f := 60) (args := [.int .i64 a, .int .u32 b, .int .i64 c]) (by kernel_rfl) rfl w
end Go.Proofs.Ytnhakcgkhhficaa.ev
