/-
  What is worked out ahead: checked. Conditions: none.
-/
import Derived.Test.YtjehddcgbgfhdaaGreatEvHGtDa
import Derived.KernelRfl
namespace Go.Proofs.YtjehddcgbgfhdaaGreat.ev
set_option maxRecDepth 1000000
set_option linter.unusedVariables false
set_option linter.unusedSimpArgs false
theorem HGtm5_1_chk : chk Tryz.prog (tabG Tryz.prog [HGte5_5, HGte5_6, HGte5_7, HGte5_8, HGte5_9, HGte5_10, HGte5_11, HGte5_12, HGte5_22, HGte5_23, HGte5_24, HGte5_25, HGte5_26, HGte5_27, HGte5_28, HGte5_29, HGte5_30, HGte5_31, HGte5_32, HGte5_33, HGte5_34, HGte5_35, HGte5_36, HGte5_37]) (spTwo (spSum [(124, true), (185, false)] [HGtp5_2, HGtp5_3]) (spKnown 18)) 300 HGtm5_1 = true := by kernel_rfl
theorem HGtm4_1_chk : chk Tryz.prog (tabG Tryz.prog [HGte4_5, HGte4_6, HGte4_7, HGte4_8, HGte4_9, HGte4_10, HGte4_11, HGte4_12, HGte4_22, HGte4_23, HGte4_24, HGte4_25, HGte4_26, HGte4_27, HGte4_28, HGte4_29, HGte4_30, HGte4_31, HGte4_32, HGte4_33, HGte4_34, HGte4_35, HGte4_36, HGte4_37, HGte4_38, HGte4_39, HGte4_40, HGte4_41]) (spTwo (spSum [(124, true), (185, false)] [HGtp4_2, HGtp4_3]) (spKnown 18)) 300 HGtm4_1 = true := by kernel_rfl
theorem HGtm4_0_chk : chk Tryz.prog (tabG Tryz.prog [HGte4_8, HGte4_9, HGte4_10, HGte4_11, HGte4_12, HGte4_26, HGte4_42, HGte4_43, HGte4_44, HGte4_45, HGte4_46, HGte4_47, HGte4_48, HGte4_49, HGte4_50, HGte4_51, HGte4_52, HGte4_53, HGte4_54, HGte4_55, HGte4_56, HGte4_57, HGte4_58, HGte4_59, HGte4_60, HGte4_61, HGte4_62, HGte4_63, HGte4_64, HGte4_65, HGte4_66, HGte4_67, HGte4_68, HGte4_69, HGte4_70, HGte4_71, HGte4_72, HGte4_73, HGte4_74, HGte4_75, HGte4_76, HGte4_77, HGte4_78, HGte4_79, HGte4_80, HGte4_81, HGte4_82, HGte4_83, HGte4_84, HGte4_85, HGte4_86, HGte4_87, HGte4_88, HGte4_89, HGte4_90]) (spTwo (spSum [(124, true), (185, false)] [HGtp4_4, HGtp4_5]) (spKnown 18)) 300 HGtm4_0 = true := by kernel_rfl
end Go.Proofs.YtjehddcgbgfhdaaGreat.ev
