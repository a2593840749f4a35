/-
  What a number's kind says of its size. Conditions: none.
-/
import Derived.Test.YtpcbpbclcldnmaaGreatEvS
namespace Go.Proofs.YtpcbpbclcldnmaaGreat.ev
theorem bd_i64 {n : Int} (h : (Lit.int .i64 n).wf = true) : -9223372036854775808 ≤ n ∧ n ≤ 9223372036854775807 := (Lit.wf_int_iff .i64 n).1 h
theorem bd_u32 {n : Int} (h : (Lit.int .u32 n).wf = true) : 0 ≤ n ∧ n ≤ 4294967295 := (Lit.wf_int_iff .u32 n).1 h
theorem bd_u8 {n : Int} (h : (Lit.int .u8 n).wf = true) : 0 ≤ n ∧ n ≤ 255 := (Lit.wf_int_iff .u8 n).1 h
end Go.Proofs.YtpcbpbclcldnmaaGreat.ev
