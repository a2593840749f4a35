/-
  The document's numbers as bytes: written and read, by a walk of each text. Conditions: none but those typed.
-/
import Derived.Test.YtngaolagifgfjaaRows
import Derived.Test.YtngaolagifgfjaaOwn
import Derived.Test.YtngaolagifgfjaaOrm
import Derived.Deep.QuietTactic
import Derived.BigQuiet
namespace Go.Proofs.Ytngaolagifgfjaa.ref
set_option linter.unusedVariables false
set_option linter.unusedSimpArgs false
open Go.ChangeShapes Go.WideShapes Go.ChangeAt Go.RowKit Go.IntWalk Go.Lib
theorem u8wf {z : Int} (h : 0 ≤ z ∧ z ≤ 255) : (Lit.int .u8 z).wf = true := (Lit.wf_int_iff .u8 z).2 h
def two (x : Int) : List Int := [x / 256 % 256, x % 256]
def four (x : Int) : List Int := [x / 16777216 % 256, x / 65536 % 256, x / 256 % 256, x % 256]
theorem two_wf (x : Int) : ∀ z ∈ two x, (Lit.int .u8 z).wf = true := by
  intro z hz; simp only [two, List.mem_cons, List.not_mem_nil, or_false] at hz; apply u8wf; omega
theorem four_wf (x : Int) : ∀ z ∈ four x, (Lit.int .u8 z).wf = true := by
  intro z hz; simp only [four, List.mem_cons, List.not_mem_nil, or_false] at hz; apply u8wf; omega
def get2 (l : List Int) (i : Nat) : Int := l.getD i 0 * 256 + l.getD (i + 1) 0
def get4 (l : List Int) (i : Nat) : Int := l.getD i 0 * 16777216 + l.getD (i + 1) 0 * 65536 + l.getD (i + 2) 0 * 256 + l.getD (i + 3) 0
end Go.Proofs.Ytngaolagifgfjaa.ref
