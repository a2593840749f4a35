/-
  What is worked out ahead: checked. Conditions: none.
-/
import Derived.Test.YtojechkpkjlgkaaEvG5Da
import Derived.KernelRfl
namespace Go.Proofs.Ytojechkpkjlgkaa.ev
set_option maxRecDepth 1000000
set_option linter.unusedVariables false
set_option linter.unusedSimpArgs false
theorem givesUp2_says : says (fxCall Try.prog (tabG Try.prog [G5e2_0, G5e2_1, G5e2_2, G5e2_3, G5e2_4, G5e2_5, G5e2_6, G5e2_7, G5e2_8, G5e2_9, G5e2_10, G5e2_11, G5e2_12, G5e2_13, G5e2_14, G5e2_15, G5e2_16, G5e2_17, G5e2_18, G5e2_19, G5e2_20, G5e2_21, G5e2_22, G5e2_23, G5e2_24, G5e2_25, G5e2_26, G5e2_27, G5e2_28, G5e2_29, G5e2_30, G5e2_31, G5e2_32, G5e2_33, G5e2_34, G5e2_35, G5e2_36, G5e2_37, G5e2_38, G5e2_39, G5e2_40, G5e2_41, G5e2_42, G5e2_43, G5e2_44, G5e2_45, G5e2_46, G5e2_47, G5e2_48, G5e2_49, G5e2_50, G5e2_51, G5e2_52, G5e2_53, G5e2_54, G5e2_55, G5e2_56, G5e2_57, G5e2_58, G5e2_59, G5e2_60, G5e2_61, G5e2_62, G5e2_63, G5e2_64, G5e2_65, G5e2_66, G5e2_67, G5e2_68, G5e2_69, G5e2_70, G5e2_71, G5e2_72, G5e2_73, G5e2_74, G5e2_75, G5e2_76, G5e2_77, G5e2_78, G5e2_79, G5e2_80, G5e2_81, G5e2_82, G5e2_83, G5e2_84, G5e2_85, G5e2_86, G5e2_87, G5e2_88, G5e2_89, G5e2_90, G5e2_91, G5e2_92, G5e2_93, G5e2_94, G5e2_95, G5e2_96, G5e2_97, G5e2_98, G5e2_99, G5e2_100, G5e2_101, G5e2_102, G5e2_103, G5e2_104, G5e2_105, G5e2_106, G5e2_107, G5e2_108, G5e2_109, G5e2_110]) (spKnown 15) 300 8 [.chan (some 0), .chan (some 1)] 0 .lf) = some true := by kernel_rfl
end Go.Proofs.Ytojechkpkjlgkaa.ev
