/-
  What is worked out ahead: checked. Conditions: none.
-/
import Derived.Test.YtjehddcgbgfhdaaGreatEvHGtDa
import Derived.KernelRfl
namespace Go.Proofs.YtjehddcgbgfhdaaGreat.ev
set_option maxRecDepth 1000000
set_option linter.unusedVariables false
set_option linter.unusedSimpArgs false
theorem grpZ0_true_says : says (fxCall Tryz.prog (tabG Tryz.prog [HGte5_0, HGte5_1, HGte5_2, HGte5_3, HGte5_4, HGte5_5]) (spTwo (spM [HGtm5_2, HGtm5_1, HGtm5_0]) (spTwo (spSum [(124, true), (185, false)] []) (spKnown 18))) 300 5 [.chan (some 0), .bool true, .chan (some 1)] 0 .lf) = some true := by kernel_rfl
theorem HGtm5_2_chk : chk Tryz.prog (tabG Tryz.prog [HGte5_2, HGte5_3, HGte5_6, HGte5_7, HGte5_8, HGte5_9, HGte5_10, HGte5_11, HGte5_12, HGte5_13, HGte5_14, HGte5_15, HGte5_16, HGte5_17, HGte5_18, HGte5_19, HGte5_20, HGte5_21, HGte5_22, HGte5_23, HGte5_24, HGte5_25, HGte5_26]) (spTwo (spSum [(124, true), (185, false)] [HGtp5_0, HGtp5_1]) (spKnown 18)) 300 HGtm5_2 = true := by kernel_rfl
theorem grpL_true_says : says (fxCall Tryz.prog (tabG Tryz.prog [HGte0_0]) (spTwo (spSum [(124, true), (185, false)] []) (spKnown 18)) 300 5 [.chan (some 0), .bool true, .chan (some 1)] 0 .lf) = some true := by kernel_rfl
theorem grpH_true_says : says (fxCall Tryz.prog (tabG Tryz.prog [HGte1_0, HGte1_1]) (spTwo (spSum [(124, true), (185, false)] []) (spKnown 18)) 300 5 [.chan (some 0), .bool true, .chan (some 1)] 0 .lf) = some true := by kernel_rfl
theorem grpA_true_says : says (fxCall Tryz.prog (tabG Tryz.prog [HGte2_0, HGte2_1, HGte2_2]) (spTwo (spSum [(124, true), (185, false)] []) (spKnown 18)) 300 5 [.chan (some 0), .bool true, .chan (some 1)] 0 .lf) = some true := by kernel_rfl
theorem grpB_true_says : says (fxCall Tryz.prog (tabG Tryz.prog [HGte3_0, HGte3_1, HGte3_2, HGte3_3]) (spTwo (spSum [(124, true), (185, false)] []) (spKnown 18)) 300 5 [.chan (some 0), .bool true, .chan (some 1)] 0 .lf) = some true := by kernel_rfl
end Go.Proofs.YtjehddcgbgfhdaaGreat.ev
