/-
  The document's numbers as bytes: written and read, by a walk of each text. Conditions: none but those typed.
-/
import Derived.Test.YtodcjokafjdhdaaRows
import Derived.Test.YtodcjokafjdhdaaOwn
import Derived.Test.YtodcjokafjdhdaaOrm
import Derived.Deep.QuietTactic
import Derived.BigQuiet
namespace Go.Proofs.Ytodcjokafjdhdaa.ref
set_option linter.unusedVariables false
set_option linter.unusedSimpArgs false
open Go.ChangeShapes Go.WideShapes Go.ChangeAt Go.RowKit Go.IntWalk Go.Lib
theorem u8wf {z : Int} (h : 0 ≤ z ∧ z ≤ 255) : (Lit.int .u8 z).wf = true := (Lit.wf_int_iff .u8 z).2 h
def two (x : Int) : List Int := [x / 256 % 256, x % 256]
def four (x : Int) : List Int := [x / 16777216 % 256, x / 65536 % 256, x / 256 % 256, x % 256]
theorem two_wf (x : Int) : ∀ z ∈ two x, (Lit.int .u8 z).wf = true := by
  intro z hz; simp only [two, List.mem_cons, List.not_mem_nil, or_false] at hz; apply u8wf; omega
theorem four_wf (x : Int) : ∀ z ∈ four x, (Lit.int .u8 z).wf = true := by
  intro z hz; simp only [four, List.mem_cons, List.not_mem_nil, or_false] at hz; apply u8wf; omega
def get2 (l : List Int) (i : Nat) : Int := l.getD i 0 * 256 + l.getD (i + 1) 0
def get4 (l : List Int) (i : Nat) : Int := l.getD i 0 * 16777216 + l.getD (i + 1) 0 * 65536 + l.getD (i + 2) 0 * 256 + l.getD (i + 3) 0
theorem four1 (w : World) (x : Int) :
    Calls Try.prog 27 #[.int .u32 x] w fun e w' => ∃ g, e = .returned (.slice (some ⟨g, 0, none⟩) 4 4) ∧ Own .u8 5 w' w.heap.size (.slice (some ⟨g, 0, none⟩) 4 4) (four x) ∧ Only [] w w' := by
  have HO : Hid (Own .u8 5 (w.alloc (.cells #[.int .u8 (x / 16777216 % 256), .int .u8 (x / 65536 % 256), .int .u8 (x / 256 % 256), .int .u8 (x % 256)] 5)) w.heap.size (.slice (some ⟨w.heap.size, 0, none⟩) 4 4) (four x)) := hid (Own.lit .u8 5 w w.heap.size (four x) _ 4 rfl rfl (Nat.le_refl _) (by simp [four, maxLen]) (four_wf x))
  go_enter Try.func27, Try.ntmps27
  go_wp2
  go_ret
  exact ⟨_, rfl, HO.out, (Only.refl [] w).alloc _⟩
end Go.Proofs.Ytodcjokafjdhdaa.ref
