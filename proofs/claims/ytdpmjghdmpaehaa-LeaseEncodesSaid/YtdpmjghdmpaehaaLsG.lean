/-
  Chapter 23 (lease): messages that Encode refuses, of the program and of the document, by a walk of each text. Conditions: none but those typed.
-/
import Derived.Test.YtdpmjghdmpaehaaLsC
namespace Go.Proofs.Ytdpmjghdmpaehaa.ls
set_option linter.unusedVariables false
set_option linter.unusedSimpArgs false
open Go.ChangeShapes Go.WideShapes Go.ChangeAt Go.RowKit Go.IntWalk Go.Lib
set_option maxRecDepth 100000 in
set_option maxHeartbeats 4000000 in
theorem enc01 (w : World) (op id yo c0 c1 c2 c3 c4 c5 ty sv ak ti mk ro re : Int) (hg : ¬ Good op ty ti) : Calls Try.prog 10 #[.agg #[.int .i64 op, .int .u32 id, .int .u32 yo, .int .u8 c0, .int .u8 c1, .int .u8 c2, .int .u8 c3, .int .u8 c4, .int .u8 c5, .int .i64 ty, .int .u32 sv, .int .u32 ak, .int .i64 ti, .int .u32 mk, .int .u32 ro, .int .u32 re]] w fun x w' => x = .returned (.tuple #[.slice none 0 0, .int .i64 1]) ∧ Only [] w w' := by
  have OB0 : Hid (Ob (w.alloc (.cells #[.int .i64 op, .int .u32 id, .int .u32 yo, .int .u8 c0, .int .u8 c1, .int .u8 c2, .int .u8 c3, .int .u8 c4, .int .u8 c5, .int .i64 ty, .int .u32 sv, .int .u32 ak, .int .i64 ti, .int .u32 mk, .int .u32 ro, .int .u32 re] 27)) w.heap.size 27 #[.int .i64 op, .int .u32 id, .int .u32 yo, .int .u8 c0, .int .u8 c1, .int .u8 c2, .int .u8 c3, .int .u8 c4, .int .u8 c5, .int .i64 ty, .int .u32 sv, .int .u32 ak, .int .i64 ti, .int .u32 mk, .int .u32 ro, .int .u32 re]) := hid (Ob.new _ _ _)
  have Q1 : Hid (Only [] w (w.alloc (.cells #[.int .i64 op, .int .u32 id, .int .u32 yo, .int .u8 c0, .int .u8 c1, .int .u8 c2, .int .u8 c3, .int .u8 c4, .int .u8 c5, .int .i64 ty, .int .u32 sv, .int .u32 ak, .int .i64 ti, .int .u32 mk, .int .u32 ro, .int .u32 re] 27))) := hid ((Only.refl [] w).alloc _)
  have hg' : (op ≠ 1 ∧ op ≠ 2) ∨ ((op = 1 ∨ op = 2) ∧ ¬ (1 ≤ ty ∧ ty ≤ 7)) ∨ ((op = 1 ∨ op = 2) ∧ (1 ≤ ty ∧ ty ≤ 7) ∧ ti < 0) ∨ ((op = 1 ∨ op = 2) ∧ (1 ≤ ty ∧ ty ≤ 7) ∧ ¬ ti < 0 ∧ 2147483647 < ti) := by
    unfold Good at hg; omega
  clear hg
  rcases hg' with ⟨h1, h2⟩ | ⟨hop, ht⟩ | ⟨hop, ht, h3⟩ | ⟨hop, ht, h3, h4⟩
  · have ho1 : (op != 1) = true := by simp [h1]
    have ho2 : (op != 2) = true := by simp [h2]
    clear h1 h2
    go_enter Try.func10, Try.ntmps10
    have k0 := OB0.out.cell 0; have k1 := OB0.out.cell 1; have k2 := OB0.out.cell 2; have k3 := OB0.out.cell 3; have k4 := OB0.out.cell 4; have k5 := OB0.out.cell 5; have k6 := OB0.out.cell 6; have k7 := OB0.out.cell 7; have k8 := OB0.out.cell 8; have k9 := OB0.out.cell 9; have k10 := OB0.out.cell 10; have k11 := OB0.out.cell 11; have k12 := OB0.out.cell 12; have k13 := OB0.out.cell 13; have k14 := OB0.out.cell 14; have k15 := OB0.out.cell 15
    go_wp2_with fail
    go_ret2
    exact ⟨rfl, Q1.out⟩
  · rcases hop with hop | hop
    · have ho1 : (op != 1) = false := by simp [hop]
      clear hop
      have hd : decide (1 ≤ ty ∧ ty ≤ 7) = false := decide_eq_false ht
      clear ht
      go_enter Try.func10, Try.ntmps10
      have k0 := OB0.out.cell 0; have k1 := OB0.out.cell 1; have k2 := OB0.out.cell 2; have k3 := OB0.out.cell 3; have k4 := OB0.out.cell 4; have k5 := OB0.out.cell 5; have k6 := OB0.out.cell 6; have k7 := OB0.out.cell 7; have k8 := OB0.out.cell 8; have k9 := OB0.out.cell 9; have k10 := OB0.out.cell 10; have k11 := OB0.out.cell 11; have k12 := OB0.out.cell 12; have k13 := OB0.out.cell 13; have k14 := OB0.out.cell 14; have k15 := OB0.out.cell 15
      go_wp2_with fail
      refine (type1 _ ty).mono ?_
      rintro x w1 ⟨rfl, hw1⟩
      subst hw1
      rw [hd]
      go_wp2_with fail
      go_ret2
      exact ⟨rfl, Q1.out⟩
    · have ho1 : (op != 1) = true := by simp [hop]
      have ho2 : (op != 2) = false := by simp [hop]
      clear hop
      have hd : decide (1 ≤ ty ∧ ty ≤ 7) = false := decide_eq_false ht
      clear ht
      go_enter Try.func10, Try.ntmps10
      have k0 := OB0.out.cell 0; have k1 := OB0.out.cell 1; have k2 := OB0.out.cell 2; have k3 := OB0.out.cell 3; have k4 := OB0.out.cell 4; have k5 := OB0.out.cell 5; have k6 := OB0.out.cell 6; have k7 := OB0.out.cell 7; have k8 := OB0.out.cell 8; have k9 := OB0.out.cell 9; have k10 := OB0.out.cell 10; have k11 := OB0.out.cell 11; have k12 := OB0.out.cell 12; have k13 := OB0.out.cell 13; have k14 := OB0.out.cell 14; have k15 := OB0.out.cell 15
      go_wp2_with fail
      refine (type1 _ ty).mono ?_
      rintro x w1 ⟨rfl, hw1⟩
      subst hw1
      rw [hd]
      go_wp2_with fail
      go_ret2
      exact ⟨rfl, Q1.out⟩
  · rcases hop with hop | hop
    · have ho1 : (op != 1) = false := by simp [hop]
      clear hop
      have hd : decide (1 ≤ ty ∧ ty ≤ 7) = true := decide_eq_true ht
      clear ht
      go_enter Try.func10, Try.ntmps10
      have k0 := OB0.out.cell 0; have k1 := OB0.out.cell 1; have k2 := OB0.out.cell 2; have k3 := OB0.out.cell 3; have k4 := OB0.out.cell 4; have k5 := OB0.out.cell 5; have k6 := OB0.out.cell 6; have k7 := OB0.out.cell 7; have k8 := OB0.out.cell 8; have k9 := OB0.out.cell 9; have k10 := OB0.out.cell 10; have k11 := OB0.out.cell 11; have k12 := OB0.out.cell 12; have k13 := OB0.out.cell 13; have k14 := OB0.out.cell 14; have k15 := OB0.out.cell 15
      go_wp2_with fail
      refine (type1 _ ty).mono ?_
      rintro x w1 ⟨rfl, hw1⟩
      subst hw1
      rw [hd]
      go_wp2_with fail
      go_ret2
      exact ⟨rfl, Q1.out⟩
    · have ho1 : (op != 1) = true := by simp [hop]
      have ho2 : (op != 2) = false := by simp [hop]
      clear hop
      have hd : decide (1 ≤ ty ∧ ty ≤ 7) = true := decide_eq_true ht
      clear ht
      go_enter Try.func10, Try.ntmps10
      have k0 := OB0.out.cell 0; have k1 := OB0.out.cell 1; have k2 := OB0.out.cell 2; have k3 := OB0.out.cell 3; have k4 := OB0.out.cell 4; have k5 := OB0.out.cell 5; have k6 := OB0.out.cell 6; have k7 := OB0.out.cell 7; have k8 := OB0.out.cell 8; have k9 := OB0.out.cell 9; have k10 := OB0.out.cell 10; have k11 := OB0.out.cell 11; have k12 := OB0.out.cell 12; have k13 := OB0.out.cell 13; have k14 := OB0.out.cell 14; have k15 := OB0.out.cell 15
      go_wp2_with fail
      refine (type1 _ ty).mono ?_
      rintro x w1 ⟨rfl, hw1⟩
      subst hw1
      rw [hd]
      go_wp2_with fail
      go_ret2
      exact ⟨rfl, Q1.out⟩
  · rcases hop with hop | hop
    · have ho1 : (op != 1) = false := by simp [hop]
      clear hop
      have hd : decide (1 ≤ ty ∧ ty ≤ 7) = true := decide_eq_true ht
      clear ht
      go_enter Try.func10, Try.ntmps10
      have k0 := OB0.out.cell 0; have k1 := OB0.out.cell 1; have k2 := OB0.out.cell 2; have k3 := OB0.out.cell 3; have k4 := OB0.out.cell 4; have k5 := OB0.out.cell 5; have k6 := OB0.out.cell 6; have k7 := OB0.out.cell 7; have k8 := OB0.out.cell 8; have k9 := OB0.out.cell 9; have k10 := OB0.out.cell 10; have k11 := OB0.out.cell 11; have k12 := OB0.out.cell 12; have k13 := OB0.out.cell 13; have k14 := OB0.out.cell 14; have k15 := OB0.out.cell 15
      go_wp2_with fail
      refine (type1 _ ty).mono ?_
      rintro x w1 ⟨rfl, hw1⟩
      subst hw1
      rw [hd]
      go_wp2_with fail
      go_ret2
      exact ⟨rfl, Q1.out⟩
    · have ho1 : (op != 1) = true := by simp [hop]
      have ho2 : (op != 2) = false := by simp [hop]
      clear hop
      have hd : decide (1 ≤ ty ∧ ty ≤ 7) = true := decide_eq_true ht
      clear ht
      go_enter Try.func10, Try.ntmps10
      have k0 := OB0.out.cell 0; have k1 := OB0.out.cell 1; have k2 := OB0.out.cell 2; have k3 := OB0.out.cell 3; have k4 := OB0.out.cell 4; have k5 := OB0.out.cell 5; have k6 := OB0.out.cell 6; have k7 := OB0.out.cell 7; have k8 := OB0.out.cell 8; have k9 := OB0.out.cell 9; have k10 := OB0.out.cell 10; have k11 := OB0.out.cell 11; have k12 := OB0.out.cell 12; have k13 := OB0.out.cell 13; have k14 := OB0.out.cell 14; have k15 := OB0.out.cell 15
      go_wp2_with fail
      refine (type1 _ ty).mono ?_
      rintro x w1 ⟨rfl, hw1⟩
      subst hw1
      rw [hd]
      go_wp2_with fail
      go_ret2
      exact ⟨rfl, Q1.out⟩
set_option maxRecDepth 100000 in
set_option maxHeartbeats 4000000 in
theorem enc02 (w : World) (op id yo c0 c1 c2 c3 c4 c5 ty sv ak ti mk ro re : Int) (hg : ¬ Good op ty ti) : Calls Try.prog 11 #[.agg #[.int .i64 op, .int .u32 id, .int .u32 yo, .int .u8 c0, .int .u8 c1, .int .u8 c2, .int .u8 c3, .int .u8 c4, .int .u8 c5, .int .i64 ty, .int .u32 sv, .int .u32 ak, .int .i64 ti, .int .u32 mk, .int .u32 ro, .int .u32 re]] w fun x w' => x = .returned (.tuple #[.slice none 0 0, .int .i64 1]) ∧ Only [] w w' := by
  have OB0 : Hid (Ob (w.alloc (.cells #[.int .i64 op, .int .u32 id, .int .u32 yo, .int .u8 c0, .int .u8 c1, .int .u8 c2, .int .u8 c3, .int .u8 c4, .int .u8 c5, .int .i64 ty, .int .u32 sv, .int .u32 ak, .int .i64 ti, .int .u32 mk, .int .u32 ro, .int .u32 re] 27)) w.heap.size 27 #[.int .i64 op, .int .u32 id, .int .u32 yo, .int .u8 c0, .int .u8 c1, .int .u8 c2, .int .u8 c3, .int .u8 c4, .int .u8 c5, .int .i64 ty, .int .u32 sv, .int .u32 ak, .int .i64 ti, .int .u32 mk, .int .u32 ro, .int .u32 re]) := hid (Ob.new _ _ _)
  have Q1 : Hid (Only [] w (w.alloc (.cells #[.int .i64 op, .int .u32 id, .int .u32 yo, .int .u8 c0, .int .u8 c1, .int .u8 c2, .int .u8 c3, .int .u8 c4, .int .u8 c5, .int .i64 ty, .int .u32 sv, .int .u32 ak, .int .i64 ti, .int .u32 mk, .int .u32 ro, .int .u32 re] 27))) := hid ((Only.refl [] w).alloc _)
  have hg' : op < 1 ∨ (¬ op < 1 ∧ 2 < op) ∨ (¬ op < 1 ∧ ¬ 2 < op ∧ ty < 1) ∨ (¬ op < 1 ∧ ¬ 2 < op ∧ ¬ ty < 1 ∧ 7 < ty) ∨ (¬ op < 1 ∧ ¬ 2 < op ∧ ¬ ty < 1 ∧ ¬ 7 < ty ∧ ti < 0) ∨ (¬ op < 1 ∧ ¬ 2 < op ∧ ¬ ty < 1 ∧ ¬ 7 < ty ∧ ¬ ti < 0 ∧ 2147483647 < ti) := by
    unfold Good at hg; omega
  clear hg
  rcases hg' with h1 | ⟨h1, h2⟩ | ⟨h1, h2, h3⟩ | ⟨h1, h2, h3, h4⟩ | ⟨h1, h2, h3, h4, h5⟩ | ⟨h1, h2, h3, h4, h5, h6⟩
  · go_enter Try.func11, Try.ntmps11
    have k0 := OB0.out.cell 0; have k1 := OB0.out.cell 1; have k2 := OB0.out.cell 2; have k3 := OB0.out.cell 3; have k4 := OB0.out.cell 4; have k5 := OB0.out.cell 5; have k6 := OB0.out.cell 6; have k7 := OB0.out.cell 7; have k8 := OB0.out.cell 8; have k9 := OB0.out.cell 9; have k10 := OB0.out.cell 10; have k11 := OB0.out.cell 11; have k12 := OB0.out.cell 12; have k13 := OB0.out.cell 13; have k14 := OB0.out.cell 14; have k15 := OB0.out.cell 15
    go_wp2_with fail
    go_ret2
    exact ⟨rfl, Q1.out⟩
  · go_enter Try.func11, Try.ntmps11
    have k0 := OB0.out.cell 0; have k1 := OB0.out.cell 1; have k2 := OB0.out.cell 2; have k3 := OB0.out.cell 3; have k4 := OB0.out.cell 4; have k5 := OB0.out.cell 5; have k6 := OB0.out.cell 6; have k7 := OB0.out.cell 7; have k8 := OB0.out.cell 8; have k9 := OB0.out.cell 9; have k10 := OB0.out.cell 10; have k11 := OB0.out.cell 11; have k12 := OB0.out.cell 12; have k13 := OB0.out.cell 13; have k14 := OB0.out.cell 14; have k15 := OB0.out.cell 15
    go_wp2_with fail
    go_ret2
    exact ⟨rfl, Q1.out⟩
  · go_enter Try.func11, Try.ntmps11
    have k0 := OB0.out.cell 0; have k1 := OB0.out.cell 1; have k2 := OB0.out.cell 2; have k3 := OB0.out.cell 3; have k4 := OB0.out.cell 4; have k5 := OB0.out.cell 5; have k6 := OB0.out.cell 6; have k7 := OB0.out.cell 7; have k8 := OB0.out.cell 8; have k9 := OB0.out.cell 9; have k10 := OB0.out.cell 10; have k11 := OB0.out.cell 11; have k12 := OB0.out.cell 12; have k13 := OB0.out.cell 13; have k14 := OB0.out.cell 14; have k15 := OB0.out.cell 15
    go_wp2_with fail
    go_ret2
    exact ⟨rfl, Q1.out⟩
  · go_enter Try.func11, Try.ntmps11
    have k0 := OB0.out.cell 0; have k1 := OB0.out.cell 1; have k2 := OB0.out.cell 2; have k3 := OB0.out.cell 3; have k4 := OB0.out.cell 4; have k5 := OB0.out.cell 5; have k6 := OB0.out.cell 6; have k7 := OB0.out.cell 7; have k8 := OB0.out.cell 8; have k9 := OB0.out.cell 9; have k10 := OB0.out.cell 10; have k11 := OB0.out.cell 11; have k12 := OB0.out.cell 12; have k13 := OB0.out.cell 13; have k14 := OB0.out.cell 14; have k15 := OB0.out.cell 15
    go_wp2_with fail
    go_ret2
    exact ⟨rfl, Q1.out⟩
  · go_enter Try.func11, Try.ntmps11
    have k0 := OB0.out.cell 0; have k1 := OB0.out.cell 1; have k2 := OB0.out.cell 2; have k3 := OB0.out.cell 3; have k4 := OB0.out.cell 4; have k5 := OB0.out.cell 5; have k6 := OB0.out.cell 6; have k7 := OB0.out.cell 7; have k8 := OB0.out.cell 8; have k9 := OB0.out.cell 9; have k10 := OB0.out.cell 10; have k11 := OB0.out.cell 11; have k12 := OB0.out.cell 12; have k13 := OB0.out.cell 13; have k14 := OB0.out.cell 14; have k15 := OB0.out.cell 15
    go_wp2_with fail
    go_ret2
    exact ⟨rfl, Q1.out⟩
  · go_enter Try.func11, Try.ntmps11
    have k0 := OB0.out.cell 0; have k1 := OB0.out.cell 1; have k2 := OB0.out.cell 2; have k3 := OB0.out.cell 3; have k4 := OB0.out.cell 4; have k5 := OB0.out.cell 5; have k6 := OB0.out.cell 6; have k7 := OB0.out.cell 7; have k8 := OB0.out.cell 8; have k9 := OB0.out.cell 9; have k10 := OB0.out.cell 10; have k11 := OB0.out.cell 11; have k12 := OB0.out.cell 12; have k13 := OB0.out.cell 13; have k14 := OB0.out.cell 14; have k15 := OB0.out.cell 15
    go_wp2_with fail
    go_ret2
    exact ⟨rfl, Q1.out⟩
end Go.Proofs.Ytdpmjghdmpaehaa.ls
