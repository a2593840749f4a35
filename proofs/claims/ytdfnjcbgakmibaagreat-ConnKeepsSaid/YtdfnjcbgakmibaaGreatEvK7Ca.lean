/-
  Calls worked out ahead: checked. Conditions: none.
-/
import Derived.Test.YtdfnjcbgakmibaaGreatEvK7Da
import Derived.KernelRfl
namespace Go.Proofs.YtdfnjcbgakmibaaGreat.ev
set_option maxRecDepth 1000000
set_option linter.unusedVariables false
theorem mmK71_chk : chk Tryz.prog noTab (spKnown 16) 300 mmK71 = true := by kernel_rfl
theorem keeps0_says : says (fxCall Tryz.prog noTab (spTwo (spM [mmK70]) (spKnown 16)) 300 7 [.int .i64 0] 0 .lf) = some true := by kernel_rfl
end Go.Proofs.YtdfnjcbgakmibaaGreat.ev
