/-
  What is worked out ahead: checked. Conditions: none.
-/
import Derived.Test.YtdfnjcbgakmibaaGreatEvX7Da
import Derived.KernelRfl
namespace Go.Proofs.YtdfnjcbgakmibaaGreat.ev
set_option maxRecDepth 1000000
set_option linter.unusedVariables false
set_option linter.unusedSimpArgs false
theorem X7m0_0_chk : chk Tryz.prog (tabG Tryz.prog [X7e0_26, X7e0_27, X7e0_28, X7e0_29, X7e0_30, X7e0_31, X7e0_32, X7e0_40, X7e0_41, X7e0_42, X7e0_43, X7e0_44, X7e0_45, X7e0_46, X7e0_58, X7e0_59, X7e0_61, X7e0_62, X7e0_68, X7e0_72, X7e0_73, X7e0_74, X7e0_75]) (spTwo (spSum [(90, true), (104, false)] [X7p0_6]) (spKnown 16)) 300 X7m0_0 = true := by kernel_rfl
theorem X7m0_6_chk : chk Tryz.prog (tabG Tryz.prog [X7e0_14, X7e0_15, X7e0_16, X7e0_17, X7e0_18, X7e0_19, X7e0_20, X7e0_25, X7e0_40, X7e0_41, X7e0_42, X7e0_43, X7e0_44, X7e0_45, X7e0_46, X7e0_47, X7e0_48, X7e0_49, X7e0_50, X7e0_51, X7e0_52, X7e0_53]) (spTwo (spM [X7m0_5, X7m0_4, X7m0_3, X7m0_2, X7m0_1]) (spTwo (spSum [(90, true), (104, false)] [X7p0_3]) (spKnown 16))) 300 X7m0_6 = true := by kernel_rfl
end Go.Proofs.YtdfnjcbgakmibaaGreat.ev
