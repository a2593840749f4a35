/-
  What is worked out ahead: checked. Conditions: none.
-/
import Derived.Test.YtpcbpbclcldnmaaGreatEvHWtDa
import Derived.KernelRfl
namespace Go.Proofs.YtpcbpbclcldnmaaGreat.ev
set_option maxRecDepth 1000000
set_option linter.unusedVariables false
set_option linter.unusedSimpArgs false
theorem twN_true_says : says (fxCall Tryz.prog (tabG Tryz.prog [HWte2_0, HWte2_1]) (spTwo (spDf Tryz.prog (tabG Tryz.prog [HWte2_0, HWte2_1]) (spKnown 20) 300 [16]) (spKnown 20)) 300 4 [.chan (some 0), .bool true] 0 .lf) = some true := by kernel_rfl
theorem twL_true_says : says (fxCall Tryz.prog (tabG Tryz.prog [HWte0_0]) (spTwo (spDf Tryz.prog (tabG Tryz.prog [HWte0_0]) (spKnown 20) 300 [16]) (spKnown 20)) 300 4 [.chan (some 0), .bool true] 0 .lf) = some true := by kernel_rfl
theorem twH_true_says : says (fxCall Tryz.prog (tabG Tryz.prog [HWte1_0, HWte1_1]) (spTwo (spDf Tryz.prog (tabG Tryz.prog [HWte1_0, HWte1_1]) (spKnown 20) 300 [16]) (spKnown 20)) 300 4 [.chan (some 0), .bool true] 0 .lf) = some true := by kernel_rfl
end Go.Proofs.YtpcbpbclcldnmaaGreat.ev
