/-
  Chapter 9 (icmp): messages, by a walk of each text, part B. Conditions: none but those typed.
-/
import Derived.Test.YtlgcbbhhodpnaaaIcmA
namespace Go.Proofs.Ytlgcbbhhodpnaaa.icm
set_option linter.unusedVariables false
set_option linter.unusedSimpArgs false
open Go.ChangeShapes Go.WideShapes Go.ChangeAt Go.RowKit Go.IntWalk Go.Lib
theorem take_nil (w : World) (t : Int) : Calls Try.prog 18 #[.pointer none, .int .i64 t] w fun x w' => x = .returned (.bool false) ∧ w' = w := by
  go_enter Try.func18, Try.ntmps18
  go_wp2
  go_ret
  exact ⟨rfl, rfl⟩
def Bk (w : World) (g : Nat) (most every tok last : Int) : Prop := Ob w g 50 #[.int .i64 most, .int .i64 every, .int .i64 tok, .int .i64 last]
theorem take_zero (w : World) (g : Nat) (t : Int) (h : Bk w g 0 0 0 0) : Calls Try.prog 18 #[.pointer (some ⟨g, 0, none⟩), .int .i64 t] w fun x w' => x = .returned (.bool false) ∧ w' = w := by
  have c1 := h.cell 1
  clear h
  go_enter Try.func18, Try.ntmps18
  go_wp2
  go_ret
  exact ⟨rfl, rfl⟩
theorem nothing (w : World) (t : Int) : Calls Try.prog 6 #[.int .i64 t] w fun x w' => x = .returned (.bool true) ∧ Only [] w w' := by
  have H0 : Hid (Bk (w.alloc (.cells #[.int .i64 0, .int .i64 0, .int .i64 0, .int .i64 0] 50)) w.heap.size 0 0 0 0) := hid (Ob.new _ _ _)
  have Q0 : Hid (Only [] w (w.alloc (.cells #[.int .i64 0, .int .i64 0, .int .i64 0, .int .i64 0] 50))) := hid ((Only.refl [] w).alloc _)
  go_enter Try.func6, Try.ntmps6
  go_wp2_with fail
  refine (take_nil _ _).mono ?_
  rintro x w1 ⟨rfl, h1⟩
  have h2 := h1.symm; subst h2; clear h1
  go_wp2_with fail
  refine (take_zero _ _ _ H0.out).mono ?_
  rintro x w2 ⟨rfl, h1⟩
  have h2 := h1.symm; subst h2; clear h1
  go_wp2_with fail
  refine (known _).mono ?_
  rintro x w3 ⟨rfl, o3⟩
  have O3 := hid o3; clear o3
  go_wp2
  go_ret
  exact ⟨rfl, Q0.out.trans O3.out⟩
end Go.Proofs.Ytlgcbbhhodpnaaa.icm
