/-
  What is worked out ahead: checked. Conditions: none.
-/
import Derived.Test.YtdfnjcbgakmibaaGreatEvX7Da
import Derived.KernelRfl
namespace Go.Proofs.YtdfnjcbgakmibaaGreat.ev
set_option maxRecDepth 1000000
set_option linter.unusedVariables false
set_option linter.unusedSimpArgs false
theorem cross0_says : says (fxCall Tryz.prog (tabG Tryz.prog [X7e0_0, X7e0_1, X7e0_25, X7e0_58, X7e0_62, X7e0_68, X7e0_69, X7e0_70, X7e0_71, X7e0_76, X7e0_77]) (spTwo (spM [X7m0_6, X7m0_0]) (spTwo (spSum [(90, true), (104, false)] []) (spKnown 16))) 300 3 [.chan (some 0), .chan (some 1)] 0 .lf) = some true := by kernel_rfl
theorem X7m0_3_chk : chk Tryz.prog (tabG Tryz.prog [X7e0_2, X7e0_3, X7e0_4, X7e0_5, X7e0_6, X7e0_7, X7e0_8, X7e0_13, X7e0_26, X7e0_27, X7e0_28, X7e0_29, X7e0_30, X7e0_31, X7e0_32, X7e0_33, X7e0_34, X7e0_35, X7e0_36, X7e0_37, X7e0_38, X7e0_39]) (spTwo (spSum [(90, true), (104, false)] [X7p0_2]) (spKnown 16)) 300 X7m0_3 = true := by kernel_rfl
end Go.Proofs.YtdfnjcbgakmibaaGreat.ev
