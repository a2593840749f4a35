/-
  The table: what is asked of the numbers. Conditions: none.
-/
import Derived.Test.YtpcbpbclcldnmaaGreatEvHWtDa
import Derived.Test.YtpcbpbclcldnmaaGreatEvV
import Derived.Test.YtpcbpbclcldnmaaGreatEvBd
namespace Go.Proofs.YtpcbpbclcldnmaaGreat.ev
set_option maxRecDepth 1000000
set_option linter.unusedVariables false
set_option linter.unusedSimpArgs false
abbrev HWtK0 (port : Int) : Prop := (port < 1) ∧ True
abbrev HWtv0 (port : Int) : List Value := [.int .i64 port]
abbrev HWtK1 (port : Int) : Prop := ¬ (port < 1) ∧ (port > 65535) ∧ True
abbrev HWtv1 (port : Int) : List Value := [.int .i64 port]
abbrev HWtK2 (port : Int) : Prop := ¬ (port < 1) ∧ ¬ (port > 65535) ∧ True
abbrev HWtv2 (port : Int) : List Value := [.int .i64 port]
end Go.Proofs.YtpcbpbclcldnmaaGreat.ev
