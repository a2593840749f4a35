/-
  What is worked out ahead. Conditions: none.
-/
import Derived.Test.YtpcbpbclcldnmaaGreatEvY
import Derived.Test.YtpcbpbclcldnmaaGreatEvP18d
namespace Go.Proofs.YtpcbpbclcldnmaaGreat.ev
set_option maxRecDepth 1000000
set_option linter.unusedVariables false
set_option linter.unusedSimpArgs false
def HWte0_0 : Ent := .bin .lss (.chan (some 0)) (.int .i64 1) (.bool true)
def HWte1_0 : Ent := .bin .lss (.chan (some 0)) (.int .i64 1) (.bool false)
def HWte1_1 : Ent := .bin .gtr (.chan (some 0)) (.int .i64 65535) (.bool true)
def HWte2_0 : Ent := .bin .lss (.chan (some 0)) (.int .i64 1) (.bool false)
def HWte2_1 : Ent := .bin .gtr (.chan (some 0)) (.int .i64 65535) (.bool false)

end Go.Proofs.YtpcbpbclcldnmaaGreat.ev
