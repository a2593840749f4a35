/-
  HubTwice, for both truth values. Conditions: none.
-/
import Derived.Test.YtpcbpbclcldnmaaGreatEvHWtZ
import Derived.Test.YtpcbpbclcldnmaaGreatEvHWfZ
namespace Go.Proofs.YtpcbpbclcldnmaaGreat.ev
theorem hubTwice (w : World) (port : Int) (b : Bool) (hp0 : -9223372036854775808 ≤ port) (hp1 : port ≤ 9223372036854775807) : Calls Tryz.prog 4 #[.int .i64 port, .bool b] w (fun e w' => e = .returned (.bool true) ∧ Only [] w w') := by
  cases b
  · exact hubTwice_false w port hp0 hp1
  · exact hubTwice_true w port hp0 hp1
end Go.Proofs.YtpcbpbclcldnmaaGreat.ev
