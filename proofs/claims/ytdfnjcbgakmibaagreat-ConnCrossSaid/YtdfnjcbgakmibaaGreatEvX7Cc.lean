/-
  What is worked out ahead: checked. Conditions: none.
-/
import Derived.Test.YtdfnjcbgakmibaaGreatEvX7Da
import Derived.KernelRfl
namespace Go.Proofs.YtdfnjcbgakmibaaGreat.ev
set_option maxRecDepth 1000000
set_option linter.unusedVariables false
set_option linter.unusedSimpArgs false
theorem X7m0_1_chk : chk Tryz.prog (tabG Tryz.prog [X7e0_26, X7e0_27, X7e0_28, X7e0_29, X7e0_30, X7e0_31, X7e0_32, X7e0_37, X7e0_40, X7e0_41, X7e0_42, X7e0_43, X7e0_44, X7e0_45, X7e0_46, X7e0_58, X7e0_59, X7e0_61, X7e0_62, X7e0_63, X7e0_64, X7e0_65, X7e0_66, X7e0_67]) (spTwo (spSum [(90, true), (104, false)] [X7p0_5]) (spKnown 16)) 300 X7m0_1 = true := by kernel_rfl
theorem X7m0_4_chk : chk Tryz.prog (tabG Tryz.prog [X7e0_1, X7e0_14, X7e0_15, X7e0_16, X7e0_17, X7e0_18, X7e0_19, X7e0_20, X7e0_21, X7e0_22, X7e0_23, X7e0_24, X7e0_25]) (spTwo (spSum [(90, true), (104, false)] [X7p0_1]) (spKnown 16)) 300 X7m0_4 = true := by kernel_rfl
end Go.Proofs.YtdfnjcbgakmibaaGreat.ev
