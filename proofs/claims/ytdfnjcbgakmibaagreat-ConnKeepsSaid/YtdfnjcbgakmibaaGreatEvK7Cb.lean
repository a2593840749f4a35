/-
  Calls worked out ahead: checked. Conditions: none.
-/
import Derived.Test.YtdfnjcbgakmibaaGreatEvK7Da
import Derived.KernelRfl
namespace Go.Proofs.YtdfnjcbgakmibaaGreat.ev
set_option maxRecDepth 1000000
set_option linter.unusedVariables false
theorem mmK70_chk : chk Tryz.prog noTab (spKnown 16) 300 mmK70 = true := by kernel_rfl
theorem keeps1_says : says (fxCall Tryz.prog noTab (spTwo (spM [mmK71]) (spKnown 16)) 300 7 [.int .i64 1] 0 .lf) = some true := by kernel_rfl
end Go.Proofs.YtdfnjcbgakmibaaGreat.ev
