/-
  Chapter 9 (icmp): whom an error may be told, by a walk of each text. Conditions: none but those typed.
-/
import Derived.Test.YtekanilgeigddaaIcmA
import Derived.Test.YtekanilgeigddaaArg
import Derived.Outline
namespace Go.Proofs.Ytekanilgeigddaa.icm
set_option linter.unusedVariables false
set_option linter.unusedSimpArgs false
open Go.ChangeShapes Go.WideShapes Go.ChangeAt Go.RowKit Go.IntWalk Go.Lib
def errB (x : Int) : Bool := decide (x = 3 ∨ x = 4 ∨ x = 5 ∨ x = 11 ∨ x = 12)
theorem tells1 (w : World) (x : Int) : Calls Try.prog 42 #[.int .u8 x] w fun e w' => e = .returned (.bool (errB x)) ∧ w = w' := by
  go_enter Try.func42, Try.ntmps42
  go_wp2
  all_goals
    go_ret
    exact ⟨rBool (Bool.eq_iff_iff.2 (by try simp only [beq_iff_eq, beq_eq_false_iff_ne, ne_eq] at *
                                        simp [errB]
                                        try omega)), rfl⟩
theorem fails1 (w : World) (x : Int) : Calls Try.prog 43 #[.int .u8 x] w fun e w' => e = .returned (.bool (errB x)) ∧ w = w' := by
  go_enter Try.func43, Try.ntmps43
  go_wp2
  all_goals
    go_ret
    exact ⟨rBool (Bool.eq_iff_iff.2 (by try simp only [beq_iff_eq, beq_eq_false_iff_ne, ne_eq] at *
                                        simp [errB]
                                        try omega)), rfl⟩
def mayF (pr : Int) (n : Nat) (b0 off to fr : Int) : Bool := decide (¬ (pr = 1 ∧ (n = 0 ∨ errB b0 = true)) ∧ ¬ 0 < off ∧ to < 3758096384 ∧ fr ≠ 0 ∧ fr < 3758096384 ∧ fr / 16777216 ≠ 127)
theorem mayF_t {pr : Int} {n : Nat} {b0 off to fr : Int} (h : ¬ (pr = 1 ∧ (n = 0 ∨ errB b0 = true)) ∧ ¬ 0 < off ∧ to < 3758096384 ∧ fr ≠ 0 ∧ fr < 3758096384 ∧ fr / 16777216 ≠ 127) : true = mayF pr n b0 off to fr := by
  unfold mayF; rw [decide_eq_true h]
theorem mayF_f {pr : Int} {n : Nat} {b0 off to fr : Int} (h : ¬ (¬ (pr = 1 ∧ (n = 0 ∨ errB b0 = true)) ∧ ¬ 0 < off ∧ to < 3758096384 ∧ fr ≠ 0 ∧ fr < 3758096384 ∧ fr / 16777216 ≠ 127)) : false = mayF pr n b0 off to fr := by
  unfold mayF; rw [decide_eq_false h]
theorem mayF_b {pr : Int} {n : Nat} {b0 off to fr : Int} {c : Bool} (h : c = true ↔ (¬ (pr = 1 ∧ (n = 0 ∨ errB b0 = true)) ∧ ¬ 0 < off ∧ to < 3758096384 ∧ fr ≠ 0 ∧ fr < 3758096384 ∧ fr / 16777216 ≠ 127)) : c = mayF pr n b0 off to fr := by
  unfold mayF; rw [Bool.eq_iff_iff, h, decide_eq_true_iff]
set_option maxHeartbeats 1000000 in
theorem may1 (w : World) (a0 a1 a4 a5 a6 a7 a8 : Int) (b2 b3 : Bool) (v9 : Value) (A : Option Addr) (n c : Nat) (l : List Int) (hl : Rd .u8 w A n l) (h7 : 0 ≤ a7 ∧ a7 ≤ 4294967295) :
    Calls Try.prog 21 #[.agg #[.int .i64 a0, .int .i64 a1, .bool b2, .bool b3, .int .i64 a4, .int .i64 a5, .int .i64 a6, .int .u32 a7, .int .u32 a8, v9, .slice A n c]] w fun e w' => e = .returned (.bool (mayF a6 n (l.getD 0 0) a4 a8 a7)) ∧ Only [] w w' := by
  obtain ⟨h7a, h7b⟩ := h7
  by_cases hn : n = 0
  · subst hn
    generalize l.getD 0 0 = x0 at *
    go_enter Try.func21, Try.ntmps21
    go_wp2
    all_goals
      go_ret
      exact ⟨rBool (by first | exact mayF_t (by (try simp only [beq_iff_eq, beq_eq_false_iff_ne, ne_eq] at *); omega) | exact mayF_f (by (try simp only [beq_iff_eq, beq_eq_false_iff_ne, ne_eq] at *); omega) | exact mayF_b (by simp; omega)), (Only.refl [] w).alloc _⟩
  · obtain ⟨b, off, rfl, hb, hc⟩ := hl.at_ (by omega)
    have c0 := hc 0 (by omega)
    simp only [Nat.add_zero] at c0
    clear hc hl
    generalize l.getD 0 0 = x0 at *
    have hn' : 0 < n := by omega
    rcases hE : errB x0 with _ | _
    all_goals
      have HE := hid hE; clear hE
      go_enter Try.func21, Try.ntmps21
      go_wp2_with (go_at_call 42; refine (tells1 _ _).mono ?_; rintro e w' ⟨rfl, rfl⟩; rw [HE.out])
      all_goals
        go_ret
        exact ⟨rBool (by first | exact mayF_t (by rw [HE.out]; (try simp only [beq_iff_eq, beq_eq_false_iff_ne, ne_eq] at *); simp only [Bool.false_eq_true, or_false, or_true, and_true]; omega) | exact mayF_f (by rw [HE.out]; (try simp only [beq_iff_eq, beq_eq_false_iff_ne, ne_eq] at *); simp only [Bool.false_eq_true, or_false, or_true, and_true]; omega) | exact mayF_b (by rw [HE.out]; simp; omega)), (Only.refl [] w).alloc _⟩
set_option maxHeartbeats 1000000 in
theorem may2 (w : World) (a0 a1 a4 a5 a6 a7 a8 : Int) (b2 b3 : Bool) (v9 : Value) (A : Option Addr) (n c : Nat) (l : List Int) (hl : Rd .u8 w A n l) (h7 : 0 ≤ a7 ∧ a7 ≤ 4294967295) :
    Calls Try.prog 22 #[.agg #[.int .i64 a0, .int .i64 a1, .bool b2, .bool b3, .int .i64 a4, .int .i64 a5, .int .i64 a6, .int .u32 a7, .int .u32 a8, v9, .slice A n c]] w fun e w' => e = .returned (.bool (mayF a6 n (l.getD 0 0) a4 a8 a7)) ∧ Only [] w w' := by
  obtain ⟨h7a, h7b⟩ := h7
  by_cases hn : n = 0
  · subst hn
    generalize l.getD 0 0 = x0 at *
    go_enter Try.func22, Try.ntmps22
    go_wp2
    all_goals
      go_ret
      exact ⟨rBool (by first | exact mayF_t (by (try simp only [beq_iff_eq, beq_eq_false_iff_ne, ne_eq] at *); omega) | exact mayF_f (by (try simp only [beq_iff_eq, beq_eq_false_iff_ne, ne_eq] at *); omega) | exact mayF_b (by simp; omega)), (Only.refl [] w).alloc _⟩
  · obtain ⟨b, off, rfl, hb, hc⟩ := hl.at_ (by omega)
    have c0 := hc 0 (by omega)
    simp only [Nat.add_zero] at c0
    clear hc hl
    generalize l.getD 0 0 = x0 at *
    have hn' : 0 < n := by omega
    rcases hE : errB x0 with _ | _
    all_goals
      have HE := hid hE; clear hE
      go_enter Try.func22, Try.ntmps22
      go_wp2_with (go_at_call 43; refine (fails1 _ _).mono ?_; rintro e w' ⟨rfl, rfl⟩; rw [HE.out])
      all_goals
        go_ret
        exact ⟨rBool (by first | exact mayF_t (by rw [HE.out]; (try simp only [beq_iff_eq, beq_eq_false_iff_ne, ne_eq] at *); simp only [Bool.false_eq_true, or_false, or_true, and_true]; omega) | exact mayF_f (by rw [HE.out]; (try simp only [beq_iff_eq, beq_eq_false_iff_ne, ne_eq] at *); simp only [Bool.false_eq_true, or_false, or_true, and_true]; omega) | exact mayF_b (by rw [HE.out]; simp; omega)), (Only.refl [] w).alloc _⟩
end Go.Proofs.Ytekanilgeigddaa.icm
