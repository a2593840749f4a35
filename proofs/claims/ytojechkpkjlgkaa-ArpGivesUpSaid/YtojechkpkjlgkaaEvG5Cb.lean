/-
  What is worked out ahead: checked. Conditions: none.
-/
import Derived.Test.YtojechkpkjlgkaaEvG5Da
import Derived.KernelRfl
namespace Go.Proofs.Ytojechkpkjlgkaa.ev
set_option maxRecDepth 1000000
set_option linter.unusedVariables false
set_option linter.unusedSimpArgs false
theorem givesUp0_says : says (fxCall Try.prog (tabG Try.prog [G5e0_0]) (spKnown 15) 300 8 [.chan (some 0), .chan (some 1)] 0 .lf) = some true := by kernel_rfl
theorem givesUp1_says : says (fxCall Try.prog (tabG Try.prog [G5e1_0, G5e1_1]) (spKnown 15) 300 8 [.chan (some 0), .chan (some 1)] 0 .lf) = some true := by kernel_rfl
end Go.Proofs.Ytojechkpkjlgkaa.ev
