/-
  Chapter 5: what is not there, whatever is asked of it. Conditions: none.
-/
import Derived.Test.YtojechkpkjlgkaaEvN
namespace Go.Proofs.Ytojechkpkjlgkaa.ev
set_option maxRecDepth 1000000
theorem known (w : World) : Calls Try.prog 15 #[] w (fun e w' => e = .returned (.bool true) ∧ Only [] w w') :=
  law (f := 300) (args := []) (by kernel_rfl) rfl w
theorem arpOfNothing (w : World) (a b0 b1 b2 b3 b4 b5 c : Int) : Calls Try.prog 9 #[.int .u32 a, .agg #[.int .u8 b0, .int .u8 b1, .int .u8 b2, .int .u8 b3, .int .u8 b4, .int .u8 b5], .int .i64 c] w (fun e w' => e = .returned (.bool true) ∧ Only [] w w') :=
  law (f := 300) (args := [.int .u32 a, .agg #[.int .u8 b0, .int .u8 b1, .int .u8 b2, .int .u8 b3, .int .u8 b4, .int .u8 b5], .int .i64 c]) (by kernel_rfl) rfl w
end Go.Proofs.Ytojechkpkjlgkaa.ev
