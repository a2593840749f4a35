/-
  Chapter 8: what is not there, whatever is asked of it. Conditions: none.
-/
import Derived.Test.YtoidpakenocllaaEvN
namespace Go.Proofs.Ytoidpakenocllaa.ev
set_option maxRecDepth 1000000
theorem known (w : World) : Calls Try.prog 16 #[] w (fun e w' => e = .returned (.bool true) ∧ Only [] w w') :=
  law (f := 300) (args := []) (by kernel_rfl) rfl w
theorem routeOfNothing (w : World) (a b c d e : Int) : Calls Try.prog 7 #[.agg #[.int .u32 a, .int .i64 b, .int .u32 c, .int .i64 d], .int .u32 e] w (fun e w' => e = .returned (.bool true) ∧ Only [] w w') :=
  law (f := 300) (args := [.agg #[.int .u32 a, .int .i64 b, .int .u32 c, .int .i64 d], .int .u32 e]) (by kernel_rfl) rfl w
end Go.Proofs.Ytoidpakenocllaa.ev
