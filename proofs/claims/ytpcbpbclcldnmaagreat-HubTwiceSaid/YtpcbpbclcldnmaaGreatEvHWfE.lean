/-
  The table: what is asked of the numbers. Conditions: none.
-/
import Derived.Test.YtpcbpbclcldnmaaGreatEvHWfDa
import Derived.Test.YtpcbpbclcldnmaaGreatEvV
import Derived.Test.YtpcbpbclcldnmaaGreatEvBd
namespace Go.Proofs.YtpcbpbclcldnmaaGreat.ev
set_option maxRecDepth 1000000
set_option linter.unusedVariables false
set_option linter.unusedSimpArgs false
abbrev HWfK0 (port : Int) : Prop := (port < 1) ∧ True
abbrev HWfv0 (port : Int) : List Value := [.int .i64 port]
abbrev HWfK1 (port : Int) : Prop := ¬ (port < 1) ∧ (port > 65535) ∧ True
abbrev HWfv1 (port : Int) : List Value := [.int .i64 port]
abbrev HWfK2 (port : Int) : Prop := ¬ (port < 1) ∧ ¬ (port > 65535) ∧ True
abbrev HWfv2 (port : Int) : List Value := [.int .i64 port]
end Go.Proofs.YtpcbpbclcldnmaaGreat.ev
