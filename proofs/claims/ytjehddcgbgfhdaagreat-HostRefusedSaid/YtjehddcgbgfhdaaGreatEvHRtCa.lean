/-
  What is worked out ahead: checked. Conditions: none.
-/
import Derived.Test.YtjehddcgbgfhdaaGreatEvHRtDa
import Derived.KernelRfl
namespace Go.Proofs.YtjehddcgbgfhdaaGreat.ev
set_option maxRecDepth 1000000
set_option linter.unusedVariables false
set_option linter.unusedSimpArgs false
theorem HRtm3_4_chk : chk Tryz.prog (tabG Tryz.prog [HRte3_2, HRte3_3, HRte3_5, HRte3_6, HRte3_7, HRte3_8, HRte3_9]) (spTwo (spSum [(124, true), (185, false)] [HRtp3_0]) (spKnown 18)) 300 HRtm3_4 = true := by kernel_rfl
theorem HRtm3_0_chk : chk Tryz.prog (tabG Tryz.prog [HRte3_10, HRte3_11, HRte3_12, HRte3_13, HRte3_14, HRte3_15, HRte3_21, HRte3_22, HRte3_23, HRte3_24, HRte3_25, HRte3_26, HRte3_27, HRte3_28, HRte3_29]) (spTwo (spSum [(124, true), (185, false)] [HRtp3_3]) (spKnown 18)) 300 HRtm3_0 = true := by kernel_rfl
theorem HRtm2_2_chk : chk Tryz.prog (tabG Tryz.prog [HRte2_14, HRte2_15, HRte2_16, HRte2_17, HRte2_18, HRte2_19, HRte2_20, HRte2_21, HRte2_22, HRte2_23, HRte2_24, HRte2_25, HRte2_26, HRte2_27]) (spTwo (spM [HRtm2_1]) (spTwo (spSum [(124, true), (185, false)] [HRtp2_1]) (spKnown 18))) 300 HRtm2_2 = true := by kernel_rfl
theorem HRtm2_3_chk : chk Tryz.prog noTab (spTwo (spM [HRtm2_2, HRtm2_0]) (spTwo (spSum [(124, true), (185, false)] []) (spKnown 18))) 300 HRtm2_3 = true := by kernel_rfl
theorem refL_true_says : says (fxCall Tryz.prog (tabG Tryz.prog [HRte0_0]) (spTwo (spSum [(124, true), (185, false)] []) (spKnown 18)) 300 4 [.chan (some 0), .bool true] 0 .lf) = some true := by kernel_rfl
end Go.Proofs.YtjehddcgbgfhdaaGreat.ev
