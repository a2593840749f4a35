/-
  Chapter 1 (octet): the sums, by a walk of each text, part B. Conditions: none but those typed.
-/
import Derived.Test.YtoogifoopafghaaOctA
namespace Go.Proofs.Ytoogifoopafghaa.oct
set_option linter.unusedVariables false
set_option linter.unusedSimpArgs false
open Go.ChangeShapes Go.WideShapes Go.ChangeAt Go.RowKit Go.IntWalk Go.Lib
theorem elemB : Elem Try.prog 22 5 .u8 1 := ⟨Try.underlying22, by kernel_rfl⟩
theorem ws_nil : ws [] = 0 := rfl
set_option maxHeartbeats 1000000 in
theorem rpart (w : World) (A : Option Addr) (n c : Nat) (l : List Int) (hl : Rd .u8 w A n l) (hn : n ≤ 140737488355328) :
    Calls Try.prog 17 #[.slice A n c] w fun e w' => e = .returned (.int .i64 (F (ws l))) ∧ ∃ m, w' = w.drewN m := by
  have HLen := hid hl.len
  have HWB := hid (ws_bd l (fun z hz => u8Bd (hl.wf z hz)))
  have HFB := hid F_bd
  go_enter Try.func17, Try.ntmps17
  go_wp2_with fail
  go_loopw [3, 4] (fun v i wr => ∃ (j : Nat) (S : Int) (m : Nat), 2 * j ≤ n + 1 ∧ i = .int .i64 (2 * j : Nat) ∧ v = .int .i64 S ∧ 0 ≤ S ∧ S ≤ 65535 ∧ Hid (S = F (ws (l.take (2 * j)))) ∧ wr = w.drewN m) (fun _ i _ => n - (intOf i).toNat)
  case atStart => exact ⟨0, 0, 0, by omega, rfl, rfl, by omega, by omega, hid (by simp [ws, F]), rfl⟩
  case round =>
    obtain ⟨j, S, m, hj, rfl, rfl, h0, h1, HS, rfl⟩ := hrel
    by_cases hlt : 2 * j < n
    · obtain ⟨b, off, rfl, hc⟩ := hl.cells (by omega)
      have q0 := hc (2 * j) (by omega)
      have w0 := u8Bd (hl.getD_wf (2 * j) (by omega))
      have hp := (ws_bd (l.take (2 * j)) (fun z hz => u8Bd (hl.wf z (List.mem_of_mem_take hz)))).1
      by_cases h2 : 2 * j + 1 < n
      · have q1 := hc (2 * j + 1) (by omega)
        have w1 := u8Bd (hl.getD_wf (2 * j + 1) (by omega))
        have HT := hid (ws_two l j (by rw [HLen.out]; omega))
        generalize l.getD (2 * j) 0 = x at *
        generalize l.getD (2 * j + 1) 0 = y at *
        have HFA := hid (F_add (ws (l.take (2 * j))) (x * 256 + y) hp (by omega))
        have hb := F_bd (S + x * 256 + y) (by omega)
        clear hc
        go_wp2_with fail
        try go_quiet (fail)
        go_wp2_with (go_at_call 51; refine (fold2 _ _ (by omega) (by omega)).mono ?_; rintro e w' ⟨rfl, rfl⟩)
        go_roundw
        case rel => exact ⟨j + 1, F (S + x * 256 + y), _, by omega, by go_num, rfl, hb.1, hb.2, hid (by rw [HT.out, ← HFA.out, ← HS.out, Int.add_assoc]), rfl⟩
        case measure => simp [intOf]; omega
      · have HT := hid (ws_one l j (by rw [HLen.out]; omega))
        have HO := hid (ws_over l (j + 1) (by rw [HLen.out]; omega))
        generalize l.getD (2 * j) 0 = x at *
        have HFA := hid (F_add (ws (l.take (2 * j))) (x * 256) hp (by omega))
        have hb := F_bd (S + x * 256) (by omega)
        clear hc
        go_wp2_with fail
        try go_quiet (fail)
        go_wp2_with (go_at_call 51; refine (fold2 _ _ (by omega) (by omega)).mono ?_; rintro e w' ⟨rfl, rfl⟩)
        go_roundw
        case rel => exact ⟨j + 1, F (S + x * 256), _, by omega, by go_num, rfl, hb.1, hb.2, hid (by rw [HO.out, HT.out, ← HFA.out, ← HS.out]), rfl⟩
        case measure => simp [intOf]; omega
    · have HO := hid (ws_over l j (by rw [HLen.out]; omega))
      go_wp2
      go_ret
      exact ⟨rInt (by rw [HS.out, HO.out]), m, rfl⟩
def sumF (l : List Int) : Int := 65535 - F (ws l)
theorem sum1 (w : World) (A : Option Addr) (n c : Nat) (l : List Int) (hl : Rd .u8 w A n l) (hn : n ≤ 140737488355328) :
    Calls Try.prog 18 #[.slice A n c] w fun e w' => e = .returned (.int .i64 (sumF l)) ∧ ∃ m, w' = w.drewN m := by
  have hb := F_bd (ws l) (ws_bd l (fun z hz => u8Bd (hl.wf z hz))).1
  have HS : Hid (sumF l = 65535 - F (ws l)) := hid rfl
  go_enter Try.func18, Try.ntmps18
  go_wp2_with (go_at_call 16; refine (part w A n c l hl hn).mono ?_; rintro e w' ⟨rfl, m, rfl⟩)
  go_ret
  exact ⟨rInt HS.out.symm, m, rfl⟩
theorem sum2 (w : World) (A : Option Addr) (n c : Nat) (l : List Int) (hl : Rd .u8 w A n l) (hn : n ≤ 140737488355328) :
    Calls Try.prog 19 #[.slice A n c] w fun e w' => e = .returned (.int .i64 (sumF l)) ∧ ∃ m, w' = w.drewN m := by
  have hb := F_bd (ws l) (ws_bd l (fun z hz => u8Bd (hl.wf z hz))).1
  have HS : Hid (sumF l = 65535 - F (ws l)) := hid rfl
  go_enter Try.func19, Try.ntmps19
  go_wp2_with (go_at_call 17; refine (rpart w A n c l hl hn).mono ?_; rintro e w' ⟨rfl, m, rfl⟩)
  go_ret
  exact ⟨rInt HS.out.symm, m, rfl⟩
theorem known (w : World) : Calls Try.prog 21 #[] w fun e w' => e = .returned (.bool true) ∧ Only [] w w' := by
  have H8 : Hid (Own .u8 5 (w.alloc (.cells #[.int .u8 0, .int .u8 1, .int .u8 242, .int .u8 3, .int .u8 244, .int .u8 245, .int .u8 246, .int .u8 247] 5)) w.heap.size (.slice (some ⟨w.heap.size, 0, none⟩) 8 8) [0, 1, 242, 3, 244, 245, 246, 247]) := hid (Own.lit .u8 _ w _ [0, 1, 242, 3, 244, 245, 246, 247] _ 8 rfl rfl (Nat.le_refl _) (by decide) (by decide))
  have hr : Rd .u8 (w.alloc (.cells #[.int .u8 0, .int .u8 1, .int .u8 242, .int .u8 3, .int .u8 244, .int .u8 245, .int .u8 246, .int .u8 247] 5)) (some ⟨w.heap.size, 0, none⟩) 8 [0, 1, 242, 3, 244, 245, 246, 247] := by
    obtain ⟨A, cap, hv, _, _, hr, _⟩ := H8.out.slice
    injection hv with h1 h2 h3
    subst h1
    exact hr
  have HR := hid hr
  clear hr
  have hF : F (65535 % 65536 + 1 % 65536) = 1 := by decide
  have hs : sumF [0, 1, 242, 3, 244, 245, 246, 247] = 8717 := by decide
  go_enter Try.func21, Try.ntmps21
  go_wp2_with (first | (go_at_call 18; refine (sum1 _ _ _ _ _ HR.out (by omega)).mono ?_; rintro e w' ⟨rfl, m, rfl⟩) | (go_at_call 22; refine (join1 _ _ _).mono ?_; rintro e w' ⟨rfl, rfl⟩))
  go_ret
  exact ⟨rfl, ((Only.refl [] w).alloc _).drewN _⟩
end Go.Proofs.Ytoogifoopafghaa.oct
