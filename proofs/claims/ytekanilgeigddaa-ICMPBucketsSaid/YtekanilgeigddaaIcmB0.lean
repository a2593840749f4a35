/-
  Chapter 9 (icmp): messages, by a walk of each text, part B. Conditions: none but those typed.
-/
import Derived.Test.YtekanilgeigddaaIcmA
namespace Go.Proofs.Ytekanilgeigddaa.icm
set_option linter.unusedVariables false
set_option linter.unusedSimpArgs false
open Go.ChangeShapes Go.WideShapes Go.ChangeAt Go.RowKit Go.IntWalk Go.Lib
theorem take_nil (w : World) (t : Int) : Calls Try.prog 29 #[.pointer none, .int .i64 t] w fun x w' => x = .returned (.bool false) ∧ w' = w := by
  go_enter Try.func29, Try.ntmps29
  go_wp2
  go_ret
  exact ⟨rfl, rfl⟩
def Bk (w : World) (g : Nat) (most every tok last : Int) : Prop := Ob w g 80 #[.int .i64 most, .int .i64 every, .int .i64 tok, .int .i64 last]
theorem take_zero (w : World) (g : Nat) (t : Int) (h : Bk w g 0 0 0 0) : Calls Try.prog 29 #[.pointer (some ⟨g, 0, none⟩), .int .i64 t] w fun x w' => x = .returned (.bool false) ∧ w' = w := by
  have c1 := h.cell 1
  clear h
  go_enter Try.func29, Try.ntmps29
  go_wp2
  go_ret
  exact ⟨rfl, rfl⟩
end Go.Proofs.Ytekanilgeigddaa.icm
