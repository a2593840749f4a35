/-
  Chapter 21 (name): are a record's numbers in their bounds, by a walk of its text. Conditions: none but those typed.
-/
import Derived.Test.YtfoecnlbiaiibaaNamHf
namespace Go.Proofs.Ytfoecnlbiaiibaa.nam
set_option linter.unusedVariables false
set_option linter.unusedSimpArgs false
open Go.ChangeShapes Go.WideShapes Go.ChangeAt Go.RowKit Go.IntWalk Go.Lib
/-- A record's numbers in their bounds. -/
def inB (ty cl ttl : Int) (q : Bool) : Prop := (0 ≤ ty ∧ ty ≤ 65535) ∧ (0 ≤ cl ∧ cl ≤ 65535) ∧ (q = false → 0 ≤ ttl ∧ ttl ≤ 2147483647)
instance (ty cl ttl : Int) (q : Bool) : Decidable (inB ty cl ttl q) := inferInstanceAs (Decidable (_ ∧ _))
set_option maxHeartbeats 4000000 in
theorem badD (w : World) (s : ByteArray) (ty cl ttl : Int) (A : Option Addr) (n c : Nat) (q : Bool) :
    Calls Try.prog 34 #[.agg #[.string s, .int .i64 ty, .int .i64 cl, .int .i64 ttl, .slice A n c], .bool q] w fun x w' => x = .returned (.int .i64 (if inB ty cl ttl q then 0 else 1)) ∧ Only [] w w' := by
  have C0 : Hid (Ob (w.alloc (.cells #[.string s, .int .i64 ty, .int .i64 cl, .int .i64 ttl, .slice A n c] 46)) w.heap.size 46 #[.string s, .int .i64 ty, .int .i64 cl, .int .i64 ttl, .slice A n c]) := hid (Ob.new _ _ _)
  have Q0 : Hid (Only [] w (w.alloc (.cells #[.string s, .int .i64 ty, .int .i64 cl, .int .i64 ttl, .slice A n c] 46))) := hid ((Only.refl [] w).alloc _)
  obtain ⟨W0, hW0⟩ : ∃ W0, w.alloc (.cells #[.string s, .int .i64 ty, .int .i64 cl, .int .i64 ttl, .slice A n c] 46) = W0 := ⟨_, rfl⟩
  rw [hW0] at C0 Q0
  have c1 := C0.out.cell 1
  have c2 := C0.out.cell 2
  have c3 := C0.out.cell 3
  by_cases a1 : ty < 0
  · rw [if_neg (fun h => by have := h.1.1; omega)]
    go_enter Try.func34, Try.ntmps34
    go_wp2_with fail
    go_ret
    exact ⟨rfl, Q0.out⟩
  by_cases a2 : 65535 < ty
  · rw [if_neg (fun h => by have := h.1.2; omega)]
    go_enter Try.func34, Try.ntmps34
    go_wp2_with fail
    go_ret
    exact ⟨rfl, Q0.out⟩
  by_cases a3 : cl < 0
  · rw [if_neg (fun h => by have := h.2.1.1; omega)]
    go_enter Try.func34, Try.ntmps34
    go_wp2_with fail
    go_ret
    exact ⟨rfl, Q0.out⟩
  by_cases a4 : 65535 < cl
  · rw [if_neg (fun h => by have := h.2.1.2; omega)]
    go_enter Try.func34, Try.ntmps34
    go_wp2_with fail
    go_ret
    exact ⟨rfl, Q0.out⟩
  cases q with
  | true =>
    rw [if_pos ⟨by omega, by omega, fun h => by cases h⟩]
    go_enter Try.func34, Try.ntmps34
    go_wp2_with fail
    go_ret
    exact ⟨rfl, Q0.out⟩
  | false =>
    by_cases a5 : ttl < 0
    · rw [if_neg (fun h => by have := (h.2.2 rfl).1; omega)]
      go_enter Try.func34, Try.ntmps34
      go_wp2_with fail
      go_ret
      exact ⟨rfl, Q0.out⟩
    by_cases a6 : 2147483647 < ttl
    · rw [if_neg (fun h => by have := (h.2.2 rfl).2; omega)]
      go_enter Try.func34, Try.ntmps34
      go_wp2_with fail
      go_ret
      exact ⟨rfl, Q0.out⟩
    rw [if_pos ⟨by omega, by omega, fun _ => by omega⟩]
    go_enter Try.func34, Try.ntmps34
    go_wp2_with fail
    go_ret
    exact ⟨rfl, Q0.out⟩
end Go.Proofs.Ytfoecnlbiaiibaa.nam
