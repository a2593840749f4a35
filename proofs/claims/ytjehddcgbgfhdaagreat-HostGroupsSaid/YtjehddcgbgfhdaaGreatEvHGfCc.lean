/-
  What is worked out ahead: checked. Conditions: none.
-/
import Derived.Test.YtjehddcgbgfhdaaGreatEvHGfDa
import Derived.KernelRfl
namespace Go.Proofs.YtjehddcgbgfhdaaGreat.ev
set_option maxRecDepth 1000000
set_option linter.unusedVariables false
set_option linter.unusedSimpArgs false
theorem grpN1_false_says : says (fxCall Tryz.prog (tabG Tryz.prog [HGfe6_0, HGfe6_1, HGfe6_2, HGfe6_3, HGfe6_4, HGfe6_5, HGfe6_33, HGfe6_34, HGfe6_35]) (spTwo (spM [HGfm6_0]) (spTwo (spSum [(124, true), (185, false)] []) (spKnown 18))) 300 5 [.chan (some 0), .bool false, .chan (some 1)] 0 .lf) = some true := by kernel_rfl
theorem grpZ2_false_says : says (fxCall Tryz.prog (tabG Tryz.prog [HGfe9_0, HGfe9_1, HGfe9_2, HGfe9_3, HGfe9_4, HGfe9_5, HGfe9_29, HGfe9_30, HGfe9_31]) (spTwo (spM [HGfm9_0]) (spTwo (spSum [(124, true), (185, false)] []) (spKnown 18))) 300 5 [.chan (some 0), .bool false, .chan (some 1)] 0 .lf) = some true := by kernel_rfl
theorem HGfm9_0_chk : chk Tryz.prog (tabG Tryz.prog [HGfe9_5, HGfe9_6, HGfe9_7, HGfe9_8, HGfe9_9, HGfe9_10, HGfe9_11, HGfe9_12, HGfe9_13, HGfe9_14, HGfe9_15, HGfe9_16, HGfe9_17, HGfe9_18, HGfe9_19, HGfe9_20, HGfe9_21, HGfe9_22, HGfe9_23, HGfe9_24, HGfe9_25, HGfe9_26, HGfe9_27, HGfe9_28]) (spTwo (spSum [(124, true), (185, false)] [HGfp9_0, HGfp9_1]) (spKnown 18)) 300 HGfm9_0 = true := by kernel_rfl
theorem HGfm6_0_chk : chk Tryz.prog (tabG Tryz.prog [HGfe6_5, HGfe6_6, HGfe6_7, HGfe6_8, HGfe6_9, HGfe6_10, HGfe6_11, HGfe6_12, HGfe6_13, HGfe6_14, HGfe6_15, HGfe6_16, HGfe6_17, HGfe6_18, HGfe6_19, HGfe6_20, HGfe6_21, HGfe6_22, HGfe6_23, HGfe6_24, HGfe6_25, HGfe6_26, HGfe6_27, HGfe6_28, HGfe6_29, HGfe6_30, HGfe6_31, HGfe6_32]) (spTwo (spSum [(124, true), (185, false)] [HGfp6_0, HGfp6_1]) (spKnown 18)) 300 HGfm6_0 = true := by kernel_rfl
theorem HGfm10_1_chk : chk Tryz.prog (tabG Tryz.prog [HGfe10_5, HGfe10_6, HGfe10_7, HGfe10_8, HGfe10_9, HGfe10_10, HGfe10_11, HGfe10_12, HGfe10_13, HGfe10_14, HGfe10_15, HGfe10_16, HGfe10_17, HGfe10_18, HGfe10_19, HGfe10_20, HGfe10_21, HGfe10_22, HGfe10_23, HGfe10_24, HGfe10_25, HGfe10_26, HGfe10_27, HGfe10_28, HGfe10_29, HGfe10_30, HGfe10_31, HGfe10_32]) (spTwo (spSum [(124, true), (185, false)] [HGfp10_0, HGfp10_1]) (spKnown 18)) 300 HGfm10_1 = true := by kernel_rfl
theorem HGfm11_0_chk : chk Tryz.prog (tabG Tryz.prog [HGfe11_29, HGfe11_30, HGfe11_31, HGfe11_32, HGfe11_33, HGfe11_34, HGfe11_35, HGfe11_36, HGfe11_37, HGfe11_38, HGfe11_39, HGfe11_40, HGfe11_41, HGfe11_42, HGfe11_43, HGfe11_44, HGfe11_45, HGfe11_46, HGfe11_47, HGfe11_48, HGfe11_49, HGfe11_50, HGfe11_51, HGfe11_52, HGfe11_53]) (spTwo (spSum [(124, true), (185, false)] [HGfp11_2]) (spKnown 18)) 300 HGfm11_0 = true := by kernel_rfl
theorem grpH_false_says : says (fxCall Tryz.prog (tabG Tryz.prog [HGfe1_0, HGfe1_1]) (spTwo (spSum [(124, true), (185, false)] []) (spKnown 18)) 300 5 [.chan (some 0), .bool false, .chan (some 1)] 0 .lf) = some true := by kernel_rfl
theorem grpB_false_says : says (fxCall Tryz.prog (tabG Tryz.prog [HGfe3_0, HGfe3_1, HGfe3_2, HGfe3_3]) (spTwo (spSum [(124, true), (185, false)] []) (spKnown 18)) 300 5 [.chan (some 0), .bool false, .chan (some 1)] 0 .lf) = some true := by kernel_rfl
end Go.Proofs.YtjehddcgbgfhdaaGreat.ev
