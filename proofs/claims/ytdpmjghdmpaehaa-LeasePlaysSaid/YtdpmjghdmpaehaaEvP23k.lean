/-
  Chapter 23: its first step has a body. Conditions: none.
-/
import Derived.Test.YtdpmjghdmpaehaaEvP23
import Derived.Test.YtdpmjghdmpaehaaEvV
import Derived.KernelRfl
namespace Go.Proofs.Ytdpmjghdmpaehaa.ev
set_option maxRecDepth 1000000
theorem knownBody : ((Try.prog.funcs[13]?).any fun fn => fn.body.isSome) = true := by kernel_rfl
end Go.Proofs.Ytdpmjghdmpaehaa.ev
