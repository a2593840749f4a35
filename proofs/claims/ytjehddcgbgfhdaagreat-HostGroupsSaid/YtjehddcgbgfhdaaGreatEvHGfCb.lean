/-
  What is worked out ahead: checked. Conditions: none.
-/
import Derived.Test.YtjehddcgbgfhdaaGreatEvHGfDa
import Derived.KernelRfl
namespace Go.Proofs.YtjehddcgbgfhdaaGreat.ev
set_option maxRecDepth 1000000
set_option linter.unusedVariables false
set_option linter.unusedSimpArgs false
theorem grpZ0_false_says : says (fxCall Tryz.prog (tabG Tryz.prog [HGfe5_0, HGfe5_1, HGfe5_2, HGfe5_3, HGfe5_4, HGfe5_5, HGfe5_29, HGfe5_30, HGfe5_31]) (spTwo (spM [HGfm5_0]) (spTwo (spSum [(124, true), (185, false)] []) (spKnown 18))) 300 5 [.chan (some 0), .bool false, .chan (some 1)] 0 .lf) = some true := by kernel_rfl
theorem grpN2_false_says : says (fxCall Tryz.prog (tabG Tryz.prog [HGfe8_0, HGfe8_1, HGfe8_2, HGfe8_3, HGfe8_4, HGfe8_5, HGfe8_33, HGfe8_34, HGfe8_35]) (spTwo (spM [HGfm8_0]) (spTwo (spSum [(124, true), (185, false)] []) (spKnown 18))) 300 5 [.chan (some 0), .bool false, .chan (some 1)] 0 .lf) = some true := by kernel_rfl
theorem HGfm7_0_chk : chk Tryz.prog (tabG Tryz.prog [HGfe7_5, HGfe7_6, HGfe7_7, HGfe7_8, HGfe7_9, HGfe7_10, HGfe7_11, HGfe7_12, HGfe7_13, HGfe7_14, HGfe7_15, HGfe7_16, HGfe7_17, HGfe7_18, HGfe7_19, HGfe7_20, HGfe7_21, HGfe7_22, HGfe7_23, HGfe7_24, HGfe7_25, HGfe7_26, HGfe7_27, HGfe7_28]) (spTwo (spSum [(124, true), (185, false)] [HGfp7_0, HGfp7_1]) (spKnown 18)) 300 HGfm7_0 = true := by kernel_rfl
theorem HGfm4_0_chk : chk Tryz.prog (tabG Tryz.prog [HGfe4_5, HGfe4_6, HGfe4_7, HGfe4_8, HGfe4_9, HGfe4_10, HGfe4_11, HGfe4_12, HGfe4_13, HGfe4_14, HGfe4_15, HGfe4_16, HGfe4_17, HGfe4_18, HGfe4_19, HGfe4_20, HGfe4_21, HGfe4_22, HGfe4_23, HGfe4_24, HGfe4_25, HGfe4_26, HGfe4_27, HGfe4_28, HGfe4_29, HGfe4_30, HGfe4_31, HGfe4_32]) (spTwo (spSum [(124, true), (185, false)] [HGfp4_0, HGfp4_1]) (spKnown 18)) 300 HGfm4_0 = true := by kernel_rfl
theorem HGfm8_0_chk : chk Tryz.prog (tabG Tryz.prog [HGfe8_5, HGfe8_6, HGfe8_7, HGfe8_8, HGfe8_9, HGfe8_10, HGfe8_11, HGfe8_12, HGfe8_13, HGfe8_14, HGfe8_15, HGfe8_16, HGfe8_17, HGfe8_18, HGfe8_19, HGfe8_20, HGfe8_21, HGfe8_22, HGfe8_23, HGfe8_24, HGfe8_25, HGfe8_26, HGfe8_27, HGfe8_28, HGfe8_29, HGfe8_30, HGfe8_31, HGfe8_32]) (spTwo (spSum [(124, true), (185, false)] [HGfp8_0, HGfp8_1]) (spKnown 18)) 300 HGfm8_0 = true := by kernel_rfl
theorem HGfm10_0_chk : chk Tryz.prog (tabG Tryz.prog [HGfe10_33, HGfe10_34, HGfe10_35, HGfe10_36, HGfe10_37, HGfe10_38, HGfe10_39, HGfe10_40, HGfe10_41, HGfe10_42, HGfe10_43, HGfe10_44, HGfe10_45, HGfe10_46, HGfe10_47, HGfe10_48, HGfe10_49, HGfe10_50, HGfe10_51, HGfe10_52, HGfe10_53, HGfe10_54, HGfe10_55, HGfe10_56, HGfe10_57]) (spTwo (spSum [(124, true), (185, false)] [HGfp10_2]) (spKnown 18)) 300 HGfm10_0 = true := by kernel_rfl
theorem grpL_false_says : says (fxCall Tryz.prog (tabG Tryz.prog [HGfe0_0]) (spTwo (spSum [(124, true), (185, false)] []) (spKnown 18)) 300 5 [.chan (some 0), .bool false, .chan (some 1)] 0 .lf) = some true := by kernel_rfl
theorem grpA_false_says : says (fxCall Tryz.prog (tabG Tryz.prog [HGfe2_0, HGfe2_1, HGfe2_2]) (spTwo (spSum [(124, true), (185, false)] []) (spKnown 18)) 300 5 [.chan (some 0), .bool false, .chan (some 1)] 0 .lf) = some true := by kernel_rfl
end Go.Proofs.YtjehddcgbgfhdaaGreat.ev
