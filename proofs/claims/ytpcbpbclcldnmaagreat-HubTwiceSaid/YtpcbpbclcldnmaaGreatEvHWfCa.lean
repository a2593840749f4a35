/-
  What is worked out ahead: checked. Conditions: none.
-/
import Derived.Test.YtpcbpbclcldnmaaGreatEvHWfDa
import Derived.KernelRfl
namespace Go.Proofs.YtpcbpbclcldnmaaGreat.ev
set_option maxRecDepth 1000000
set_option linter.unusedVariables false
set_option linter.unusedSimpArgs false
theorem twN_false_says : says (fxCall Tryz.prog (tabG Tryz.prog [HWfe2_0, HWfe2_1]) (spKnown 20) 300 4 [.chan (some 0), .bool false] 0 .lf) = some true := by kernel_rfl
theorem twL_false_says : says (fxCall Tryz.prog (tabG Tryz.prog [HWfe0_0]) (spKnown 20) 300 4 [.chan (some 0), .bool false] 0 .lf) = some true := by kernel_rfl
theorem twH_false_says : says (fxCall Tryz.prog (tabG Tryz.prog [HWfe1_0, HWfe1_1]) (spKnown 20) 300 4 [.chan (some 0), .bool false] 0 .lf) = some true := by kernel_rfl
end Go.Proofs.YtpcbpbclcldnmaaGreat.ev
