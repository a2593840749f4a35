/-
  What is worked out ahead: checked. Conditions: none.
-/
import Derived.Test.YtdfnjcbgakmibaaGreatEvX7Da
import Derived.KernelRfl
namespace Go.Proofs.YtdfnjcbgakmibaaGreat.ev
set_option maxRecDepth 1000000
set_option linter.unusedVariables false
set_option linter.unusedSimpArgs false
theorem X7m0_2_chk : chk Tryz.prog (tabG Tryz.prog [X7e0_26, X7e0_27, X7e0_28, X7e0_29, X7e0_30, X7e0_31, X7e0_32, X7e0_40, X7e0_41, X7e0_42, X7e0_43, X7e0_44, X7e0_45, X7e0_46, X7e0_51, X7e0_54, X7e0_55, X7e0_56, X7e0_57, X7e0_58, X7e0_59, X7e0_60, X7e0_61, X7e0_62]) (spTwo (spSum [(90, true), (104, false)] [X7p0_4]) (spKnown 16)) 300 X7m0_2 = true := by kernel_rfl
theorem X7m0_5_chk : chk Tryz.prog (tabG Tryz.prog [X7e0_0, X7e0_2, X7e0_3, X7e0_4, X7e0_5, X7e0_6, X7e0_7, X7e0_8, X7e0_9, X7e0_10, X7e0_11, X7e0_12, X7e0_13]) (spTwo (spSum [(90, true), (104, false)] [X7p0_0]) (spKnown 16)) 300 X7m0_5 = true := by kernel_rfl
end Go.Proofs.YtdfnjcbgakmibaaGreat.ev
