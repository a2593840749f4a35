/-
  What is worked out ahead: checked. Conditions: none.
-/
import Derived.Test.YtjehddcgbgfhdaaGreatEvHRfDa
import Derived.KernelRfl
namespace Go.Proofs.YtjehddcgbgfhdaaGreat.ev
set_option maxRecDepth 1000000
set_option linter.unusedVariables false
set_option linter.unusedSimpArgs false
theorem HRfm3_4_chk : chk Tryz.prog (tabG Tryz.prog [HRfe3_2, HRfe3_3, HRfe3_4, HRfe3_5, HRfe3_6, HRfe3_7, HRfe3_8]) (spTwo (spSum [(124, true), (185, false)] [HRfp3_0]) (spKnown 18)) 300 HRfm3_4 = true := by kernel_rfl
theorem HRfm3_0_chk : chk Tryz.prog (tabG Tryz.prog [HRfe3_9, HRfe3_10, HRfe3_11, HRfe3_12, HRfe3_13, HRfe3_14, HRfe3_20, HRfe3_21, HRfe3_22, HRfe3_23, HRfe3_24, HRfe3_25, HRfe3_26]) (spTwo (spSum [(124, true), (185, false)] [HRfp3_3]) (spKnown 18)) 300 HRfm3_0 = true := by kernel_rfl
theorem refN_false_says : says (fxCall Tryz.prog (tabG Tryz.prog [HRfe2_0, HRfe2_1]) (spTwo (spM [HRfm2_4, HRfm2_3]) (spTwo (spSum [(124, true), (185, false)] []) (spKnown 18))) 300 4 [.chan (some 0), .bool false] 0 .lf) = some true := by kernel_rfl
theorem HRfm2_3_chk : chk Tryz.prog noTab (spTwo (spM [HRfm2_2, HRfm2_0]) (spTwo (spSum [(124, true), (185, false)] []) (spKnown 18))) 300 HRfm2_3 = true := by kernel_rfl
theorem refL_false_says : says (fxCall Tryz.prog (tabG Tryz.prog [HRfe0_0]) (spTwo (spSum [(124, true), (185, false)] []) (spKnown 18)) 300 4 [.chan (some 0), .bool false] 0 .lf) = some true := by kernel_rfl
theorem refH_false_says : says (fxCall Tryz.prog (tabG Tryz.prog [HRfe1_0, HRfe1_1]) (spTwo (spSum [(124, true), (185, false)] []) (spKnown 18)) 300 4 [.chan (some 0), .bool false] 0 .lf) = some true := by kernel_rfl
end Go.Proofs.YtjehddcgbgfhdaaGreat.ev
