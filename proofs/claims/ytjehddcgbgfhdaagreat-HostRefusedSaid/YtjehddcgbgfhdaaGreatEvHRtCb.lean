/-
  What is worked out ahead: checked. Conditions: none.
-/
import Derived.Test.YtjehddcgbgfhdaaGreatEvHRtDa
import Derived.KernelRfl
namespace Go.Proofs.YtjehddcgbgfhdaaGreat.ev
set_option maxRecDepth 1000000
set_option linter.unusedVariables false
set_option linter.unusedSimpArgs false
theorem HRtm2_4_chk : chk Tryz.prog (tabG Tryz.prog [HRte2_2, HRte2_3, HRte2_5, HRte2_6, HRte2_7, HRte2_8, HRte2_9, HRte2_10, HRte2_11, HRte2_12, HRte2_13]) (spTwo (spSum [(124, true), (185, false)] [HRtp2_0]) (spKnown 18)) 300 HRtm2_4 = true := by kernel_rfl
theorem HRtm2_0_chk : chk Tryz.prog (tabG Tryz.prog [HRte2_14, HRte2_15, HRte2_16, HRte2_17, HRte2_18, HRte2_19, HRte2_32, HRte2_33, HRte2_34, HRte2_35, HRte2_36, HRte2_37, HRte2_38, HRte2_39, HRte2_40]) (spTwo (spSum [(124, true), (185, false)] [HRtp2_3]) (spKnown 18)) 300 HRtm2_0 = true := by kernel_rfl
theorem refZ_true_says : says (fxCall Tryz.prog (tabG Tryz.prog [HRte3_0, HRte3_1, HRte3_2, HRte3_3, HRte3_4]) (spTwo (spM [HRtm3_4, HRtm3_3]) (spTwo (spSum [(124, true), (185, false)] []) (spKnown 18))) 300 4 [.chan (some 0), .bool true] 0 .lf) = some true := by kernel_rfl
theorem HRtm3_3_chk : chk Tryz.prog noTab (spTwo (spM [HRtm3_2, HRtm3_0]) (spTwo (spSum [(124, true), (185, false)] []) (spKnown 18))) 300 HRtm3_3 = true := by kernel_rfl
theorem refH_true_says : says (fxCall Tryz.prog (tabG Tryz.prog [HRte1_0, HRte1_1]) (spTwo (spSum [(124, true), (185, false)] []) (spKnown 18)) 300 4 [.chan (some 0), .bool true] 0 .lf) = some true := by kernel_rfl
end Go.Proofs.YtjehddcgbgfhdaaGreat.ev
