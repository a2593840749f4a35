/-
  What is worked out ahead: checked. Conditions: none.
-/
import Derived.Test.YtjehddcgbgfhdaaGreatEvHRfDa
import Derived.KernelRfl
namespace Go.Proofs.YtjehddcgbgfhdaaGreat.ev
set_option maxRecDepth 1000000
set_option linter.unusedVariables false
set_option linter.unusedSimpArgs false
theorem HRfm2_4_chk : chk Tryz.prog (tabG Tryz.prog [HRfe2_2, HRfe2_3, HRfe2_4, HRfe2_5, HRfe2_6, HRfe2_7, HRfe2_8, HRfe2_9, HRfe2_10, HRfe2_11, HRfe2_12]) (spTwo (spSum [(124, true), (185, false)] [HRfp2_0]) (spKnown 18)) 300 HRfm2_4 = true := by kernel_rfl
theorem HRfm2_0_chk : chk Tryz.prog (tabG Tryz.prog [HRfe2_13, HRfe2_14, HRfe2_15, HRfe2_16, HRfe2_17, HRfe2_18, HRfe2_31, HRfe2_32, HRfe2_33, HRfe2_34, HRfe2_35, HRfe2_36, HRfe2_37]) (spTwo (spSum [(124, true), (185, false)] [HRfp2_3]) (spKnown 18)) 300 HRfm2_0 = true := by kernel_rfl
theorem HRfm3_2_chk : chk Tryz.prog (tabG Tryz.prog [HRfe3_9, HRfe3_10, HRfe3_11, HRfe3_12, HRfe3_13, HRfe3_14, HRfe3_15]) (spTwo (spM [HRfm3_1]) (spTwo (spSum [(124, true), (185, false)] [HRfp3_1]) (spKnown 18))) 300 HRfm3_2 = true := by kernel_rfl
theorem HRfm3_3_chk : chk Tryz.prog noTab (spTwo (spM [HRfm3_2, HRfm3_0]) (spTwo (spSum [(124, true), (185, false)] []) (spKnown 18))) 300 HRfm3_3 = true := by kernel_rfl
end Go.Proofs.YtjehddcgbgfhdaaGreat.ev
