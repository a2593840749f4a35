/-
  The laws' own helpers: whether two rows of bytes are the same, a row with marked room behind it, and a row spoilt, by a walk of each text. Conditions: none but those typed.
-/
import Derived.Test.YtiiajkfaikeenaaGreatRows
import Derived.Test.YtiiajkfaikeenaaGreatOwn
import Derived.Test.YtiiajkfaikeenaaGreatBit
import Derived.Deep.QuietTactic
import Derived.BigQuiet
namespace Go.Proofs.YtiiajkfaikeenaaGreat.hlp
set_option linter.unusedVariables false
set_option linter.unusedSimpArgs false
open Go.ChangeShapes Go.WideShapes Go.ChangeAt Go.RowKit Go.IntWalk Go.Lib
theorem elemB : Elem Tryz.prog 24 5 .u8 1 := ⟨Tryz.underlying24, by kernel_rfl⟩
theorem u8wf {z : Int} (h : 0 ≤ z ∧ z ≤ 255) : (Lit.int .u8 z).wf = true := (Lit.wf_int_iff .u8 z).2 h
end Go.Proofs.YtiiajkfaikeenaaGreat.hlp
