/-
  What is worked out ahead: checked. Conditions: none.
-/
import Derived.Test.YtjehddcgbgfhdaaGreatEvHRtDa
import Derived.KernelRfl
namespace Go.Proofs.YtjehddcgbgfhdaaGreat.ev
set_option maxRecDepth 1000000
set_option linter.unusedVariables false
set_option linter.unusedSimpArgs false
theorem HRtm2_1_chk : chk Tryz.prog (tabG Tryz.prog [HRte2_28, HRte2_29, HRte2_30, HRte2_31]) (spTwo (spSum [(124, true), (185, false)] [HRtp2_2]) (spKnown 18)) 300 HRtm2_1 = true := by kernel_rfl
theorem HRtm3_1_chk : chk Tryz.prog (tabG Tryz.prog [HRte3_17, HRte3_18, HRte3_19, HRte3_20]) (spTwo (spSum [(124, true), (185, false)] [HRtp3_2]) (spKnown 18)) 300 HRtm3_1 = true := by kernel_rfl
theorem refN_true_says : says (fxCall Tryz.prog (tabG Tryz.prog [HRte2_0, HRte2_1, HRte2_2, HRte2_3, HRte2_4]) (spTwo (spM [HRtm2_4, HRtm2_3]) (spTwo (spSum [(124, true), (185, false)] []) (spKnown 18))) 300 4 [.chan (some 0), .bool true] 0 .lf) = some true := by kernel_rfl
theorem HRtm3_2_chk : chk Tryz.prog (tabG Tryz.prog [HRte3_10, HRte3_11, HRte3_12, HRte3_13, HRte3_14, HRte3_15, HRte3_16]) (spTwo (spM [HRtm3_1]) (spTwo (spSum [(124, true), (185, false)] [HRtp3_1]) (spKnown 18))) 300 HRtm3_2 = true := by kernel_rfl
end Go.Proofs.YtjehddcgbgfhdaaGreat.ev
