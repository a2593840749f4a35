/-
  Chapter 23: what is not there, whatever is asked of it. Conditions: none.
-/
import Derived.Test.YtdpmjghdmpaehaaEvN
namespace Go.Proofs.Ytdpmjghdmpaehaa.ev
set_option maxRecDepth 1000000
theorem known (w : World) : Calls Try.prog 13 #[] w (fun e w' => e = .returned (.bool true) ∧ Only [] w w') :=
  law (f := 300) (args := []) (by kernel_rfl) rfl w
theorem leaseOfNothing (w : World) (a b c d0 d1 d2 d3 d4 d5 e f g h i j k n : Int) : Calls Try.prog 6 #[.agg #[.int .i64 a, .int .u32 b, .int .u32 c, .int .u8 d0, .int .u8 d1, .int .u8 d2, .int .u8 d3, .int .u8 d4, .int .u8 d5, .int .i64 e, .int .u32 f, .int .u32 g, .int .i64 h, .int .u32 i, .int .u32 j, .int .u32 k], .int .i64 n] w (fun e w' => e = .returned (.bool true) ∧ Only [] w w') :=
  law (f := 300) (args := [.agg #[.int .i64 a, .int .u32 b, .int .u32 c, .int .u8 d0, .int .u8 d1, .int .u8 d2, .int .u8 d3, .int .u8 d4, .int .u8 d5, .int .i64 e, .int .u32 f, .int .u32 g, .int .i64 h, .int .u32 i, .int .u32 j, .int .u32 k], .int .i64 n]) (by kernel_rfl) rfl w
end Go.Proofs.Ytdpmjghdmpaehaa.ev
