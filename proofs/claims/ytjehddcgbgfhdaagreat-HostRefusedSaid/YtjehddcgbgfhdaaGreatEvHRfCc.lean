/-
  What is worked out ahead: checked. Conditions: none.
-/
import Derived.Test.YtjehddcgbgfhdaaGreatEvHRfDa
import Derived.KernelRfl
namespace Go.Proofs.YtjehddcgbgfhdaaGreat.ev
set_option maxRecDepth 1000000
set_option linter.unusedVariables false
set_option linter.unusedSimpArgs false
theorem HRfm2_1_chk : chk Tryz.prog (tabG Tryz.prog [HRfe2_27, HRfe2_28, HRfe2_29, HRfe2_30]) (spTwo (spSum [(124, true), (185, false)] [HRfp2_2]) (spKnown 18)) 300 HRfm2_1 = true := by kernel_rfl
theorem HRfm3_1_chk : chk Tryz.prog (tabG Tryz.prog [HRfe3_16, HRfe3_17, HRfe3_18, HRfe3_19]) (spTwo (spSum [(124, true), (185, false)] [HRfp3_2]) (spKnown 18)) 300 HRfm3_1 = true := by kernel_rfl
theorem HRfm2_2_chk : chk Tryz.prog (tabG Tryz.prog [HRfe2_13, HRfe2_14, HRfe2_15, HRfe2_16, HRfe2_17, HRfe2_18, HRfe2_19, HRfe2_20, HRfe2_21, HRfe2_22, HRfe2_23, HRfe2_24, HRfe2_25, HRfe2_26]) (spTwo (spM [HRfm2_1]) (spTwo (spSum [(124, true), (185, false)] [HRfp2_1]) (spKnown 18))) 300 HRfm2_2 = true := by kernel_rfl
theorem refZ_false_says : says (fxCall Tryz.prog (tabG Tryz.prog [HRfe3_0, HRfe3_1]) (spTwo (spM [HRfm3_4, HRfm3_3]) (spTwo (spSum [(124, true), (185, false)] []) (spKnown 18))) 300 4 [.chan (some 0), .bool false] 0 .lf) = some true := by kernel_rfl
end Go.Proofs.YtjehddcgbgfhdaaGreat.ev
