/-
  What is worked out ahead: checked. Conditions: none.
-/
import Derived.Test.YtjehddcgbgfhdaaGreatEvHGtDa
import Derived.KernelRfl
namespace Go.Proofs.YtjehddcgbgfhdaaGreat.ev
set_option maxRecDepth 1000000
set_option linter.unusedVariables false
set_option linter.unusedSimpArgs false
theorem grpN0_true_says : says (fxCall Tryz.prog (tabG Tryz.prog [HGte4_0, HGte4_1, HGte4_2, HGte4_3, HGte4_4, HGte4_5]) (spTwo (spM [HGtm4_2, HGtm4_1, HGtm4_0]) (spTwo (spSum [(124, true), (185, false)] []) (spKnown 18))) 300 5 [.chan (some 0), .bool true, .chan (some 1)] 0 .lf) = some true := by kernel_rfl
theorem HGtm4_2_chk : chk Tryz.prog (tabG Tryz.prog [HGte4_2, HGte4_3, HGte4_6, HGte4_7, HGte4_8, HGte4_9, HGte4_10, HGte4_11, HGte4_12, HGte4_13, HGte4_14, HGte4_15, HGte4_16, HGte4_17, HGte4_18, HGte4_19, HGte4_20, HGte4_21, HGte4_22, HGte4_23, HGte4_24, HGte4_25, HGte4_26]) (spTwo (spSum [(124, true), (185, false)] [HGtp4_0, HGtp4_1]) (spKnown 18)) 300 HGtm4_2 = true := by kernel_rfl
theorem HGtm5_0_chk : chk Tryz.prog (tabG Tryz.prog [HGte5_8, HGte5_9, HGte5_10, HGte5_11, HGte5_12, HGte5_26, HGte5_38, HGte5_39, HGte5_40, HGte5_41, HGte5_42, HGte5_43, HGte5_44, HGte5_45, HGte5_46, HGte5_47, HGte5_48, HGte5_49, HGte5_50, HGte5_51, HGte5_52, HGte5_53, HGte5_54, HGte5_55, HGte5_56, HGte5_57, HGte5_58, HGte5_59, HGte5_60, HGte5_61, HGte5_62, HGte5_63, HGte5_64, HGte5_65, HGte5_66, HGte5_67, HGte5_68, HGte5_69, HGte5_70, HGte5_71, HGte5_72, HGte5_73, HGte5_74, HGte5_75, HGte5_76, HGte5_77, HGte5_78, HGte5_79]) (spTwo (spSum [(124, true), (185, false)] [HGtp5_4, HGtp5_5]) (spKnown 18)) 300 HGtm5_0 = true := by kernel_rfl
end Go.Proofs.YtjehddcgbgfhdaaGreat.ev
