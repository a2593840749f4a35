/-
  Chapter 1 (octet): the sums, by a walk of each text, part A. Conditions: none but those typed.
-/
import Derived.Test.YtodcjokafjdhdaaRows
import Derived.Test.YtodcjokafjdhdaaByt
import Derived.Test.YtodcjokafjdhdaaBit
import Derived.Deep.QuietTactic
import Derived.BigQuiet
namespace Go.Proofs.Ytodcjokafjdhdaa.oct
set_option linter.unusedVariables false
set_option linter.unusedSimpArgs false
open Go.ChangeShapes Go.WideShapes Go.ChangeAt Go.RowKit Go.IntWalk Go.Lib
/-- The carries added: 0 for 0, else from 1 to 65535. -/
def F (x : Int) : Int := if x = 0 then 0 else (x - 1) % 65535 + 1
theorem F_small (x : Int) (h : 0 ≤ x) (h' : x ≤ 65535) : F x = x := by unfold F; omega
theorem F_step (x : Int) (h : 65535 < x) : F (x % 65536 + x / 65536) = F x := by unfold F; omega
theorem F_bd (x : Int) (h : 0 ≤ x) : 0 ≤ F x ∧ F x ≤ 65535 := by unfold F; omega
theorem F_add (a b : Int) (ha : 0 ≤ a) (hb : 0 ≤ b) : F (F a + b) = F (a + b) := by unfold F; omega
/-- The sum of the words of a row of bytes. -/
def ws : List Int → Int
  | a :: b :: r => a * 256 + b + ws r
  | [a] => a * 256
  | [] => 0
theorem ws_app : ∀ (p q : List Int), p.length % 2 = 0 → ws (p ++ q) = ws p + ws q
  | [], q, _ => by simp [ws]
  | [a], q, h => by simp at h
  | a :: b :: r, q, h => by
    have := ws_app r q (by simp at h; omega)
    simp only [List.cons_append, ws, this]
    omega
theorem ws_bd : ∀ (l : List Int), (∀ z ∈ l, 0 ≤ z ∧ z ≤ 255) → 0 ≤ ws l ∧ ws l ≤ 65535 * l.length
  | [], _ => by simp [ws]
  | [a], h => by have := h a (by simp); simp only [ws, List.length_singleton]; omega
  | a :: b :: r, h => by
    have h1 := ws_bd r (fun z hz => h z (by simp [hz]))
    have h2 := h a (by simp)
    have h3 := h b (by simp)
    simp only [ws, List.length_cons]
    omega
theorem take_two (l : List Int) (j : Nat) (h : 2 * j + 1 < l.length) : l.take (2 * (j + 1)) = l.take (2 * j) ++ [l.getD (2 * j) 0, l.getD (2 * j + 1) 0] := by
  rw [show 2 * (j + 1) = (2 * j + 1) + 1 from by omega, List.take_succ_eq_append_getElem h, List.take_succ_eq_append_getElem (by omega)]
  rw [List.getD_eq_getElem?_getD, List.getD_eq_getElem?_getD, List.getElem?_eq_getElem h, List.getElem?_eq_getElem (show 2 * j < l.length from by omega), List.append_assoc]
  rfl
theorem ws_two (l : List Int) (j : Nat) (h : 2 * j + 1 < l.length) : ws (l.take (2 * (j + 1))) = ws (l.take (2 * j)) + (l.getD (2 * j) 0 * 256 + l.getD (2 * j + 1) 0) := by
  rw [take_two l j h, ws_app _ _ (by rw [List.length_take]; omega)]
  simp [ws]
theorem ws_one (l : List Int) (j : Nat) (h : 2 * j + 1 = l.length) : ws l = ws (l.take (2 * j)) + l.getD (2 * j) 0 * 256 := by
  have e : l = l.take (2 * j) ++ [l.getD (2 * j) 0] := by
    have := List.take_succ_eq_append_getElem (l := l) (i := 2 * j) (by omega)
    rw [List.take_of_length_le (by omega)] at this
    simpa [List.getD_eq_getElem?_getD, show 2 * j < l.length from by omega] using this
  have h2 := ws_app (l.take (2 * j)) [l.getD (2 * j) 0] (by rw [List.length_take]; omega)
  rw [← e] at h2
  simpa [ws] using h2
theorem ws_over (l : List Int) (j : Nat) (h : l.length ≤ 2 * j) : ws (l.take (2 * j)) = ws l := by rw [List.take_of_length_le h]
theorem fold1 (x : Int) (w : World) (h : 0 ≤ x) (h' : x ≤ 9223372036854775807) :
    Calls Try.prog 53 #[.int .u64 x] w fun e w' => e = .returned (.int .i64 (F x)) ∧ w' = w := by
  go_enter Try.func53, Try.ntmps53
  go_wp2
  go_loop [0] (fun v => ∃ y : Int, 0 ≤ y ∧ y ≤ 9223372036854775807 ∧ Hid (F y = F x) ∧ v = .int .u64 y) (fun v => (intOf v).toNat)
  case atStart => exact ⟨x, h, h', hid rfl, rfl⟩
  case round =>
    obtain ⟨y, h0, h1, HF, rfl⟩ := hrel
    have hb : bits .and .u64 y 65535 = y % 65536 := u64_and65535 y h0 (by omega)
    by_cases hlt : 65535 < y
    · have HS := hid (F_step y hlt)
      go_wp2
      go_round
      case rel => exact ⟨y % 65536 + y / 65536, by omega, by omega, hid (HS.out.trans HF.out), rfl⟩
      case measure => simp [intOf]; omega
    · have HS := hid (F_small y h0 (by omega))
      go_wp2
      go_ret
      exact ⟨rInt (HS.out.symm.trans HF.out), rfl⟩
theorem fold2 (x : Int) (w : World) (h : 0 ≤ x) (h' : x ≤ 9223372036854775807) :
    Calls Try.prog 63 #[.int .i64 x] w fun e w' => e = .returned (.int .i64 (F x)) ∧ w' = w := by
  go_enter Try.func63, Try.ntmps63
  go_wp2
  go_loop [0] (fun v => ∃ y : Int, 0 ≤ y ∧ y ≤ 9223372036854775807 ∧ Hid (F y = F x) ∧ v = .int .i64 y) (fun v => (intOf v).toNat)
  case atStart => exact ⟨x, h, h', hid rfl, rfl⟩
  case round =>
    obtain ⟨y, h0, h1, HF, rfl⟩ := hrel
    have hb : bits .and .i64 y 65535 = y % 65536 := i64_and65535 y
    by_cases hlt : 65535 < y
    · have HS := hid (F_step y hlt)
      go_wp2
      go_round
      case rel => exact ⟨y % 65536 + y / 65536, by omega, by omega, hid (HS.out.trans HF.out), rfl⟩
      case measure => simp [intOf]; omega
    · have HS := hid (F_small y h0 (by omega))
      go_wp2
      go_ret
      exact ⟨rInt (HS.out.symm.trans HF.out), rfl⟩
theorem part0 (w : World) (A : Option Addr) (c : Nat) :
    Calls Try.prog 33 #[.slice A 0 c] w fun e w' => e = .returned (.int .i64 0) ∧ ∃ m, w' = w.drewN m := by
  go_enter Try.func33, Try.ntmps33
  go_wp2_with fail
  go_loop [3, 8] (fun v i => i = .int .i64 0 ∧ v = .int .u64 0) (fun _ i => 0)
  case atStart => exact ⟨rfl, rfl⟩
  case round =>
    obtain ⟨rfl, rfl⟩ := hrel
    go_wp2_with (go_at_call 53; refine (fold1 _ _ (by omega) (by omega)).mono ?_; rintro e w' ⟨rfl, rfl⟩)
    go_ret
    exact ⟨rfl, 0, rfl⟩
set_option maxHeartbeats 1000000 in
theorem part1 (w : World) (b off n c : Nat) (l : List Int) (hl : Rd .u8 w (some ⟨b, off, none⟩) n l) (hn : n ≤ 140737488355328) :
    Calls Try.prog 33 #[.slice (some ⟨b, off, none⟩) n c] w fun e w' => e = .returned (.int .i64 (F (ws l))) ∧ ∃ m, w' = w.drewN m := by
  have HLen := hid hl.len
  have HWB := hid (ws_bd l (fun z hz => u8Bd (hl.wf z hz)))
  go_enter Try.func33, Try.ntmps33
  go_wp2_with fail
  go_loopw [3, 8] (fun v i wr => ∃ (j : Nat) (S : Int) (m : Nat), 2 * j ≤ n ∧ i = .int .i64 j ∧ v = .int .u64 S ∧ 0 ≤ S ∧ S ≤ j * 65535 ∧ Hid (S = ws (l.take (2 * j))) ∧ wr = w.drewN m) (fun _ i _ => n - (intOf i).toNat)
  case atStart => exact ⟨0, 0, 0, by omega, rfl, rfl, by omega, by omega, hid (by simp [ws]), rfl⟩
  case round =>
    obtain ⟨j, S, m, hj, rfl, rfl, h0, h1, HS, rfl⟩ := hrel
    by_cases hlt : j < n / 2
    · obtain ⟨b', off', e, hc⟩ := hl.cells (by omega)
      obtain ⟨rfl, rfl⟩ : b = b' ∧ off = off' := by simpa using e
      have q0 := hc (2 * j) (by omega)
      have q1 := hc (2 * j + 1) (by omega)
      have w0 := u8Bd (hl.getD_wf (2 * j) (by omega))
      have w1 := u8Bd (hl.getD_wf (2 * j + 1) (by omega))
      have HT := hid (ws_two l j (by rw [HLen.out]; omega))
      generalize l.getD (2 * j) 0 = x at *
      generalize l.getD (2 * j + 1) 0 = y at *
      have hj2 := u64_join8 x y (by omega) (by omega) (by omega) (by omega)
      clear hc e
      go_wp2
      go_quiet (fail)
      go_wp2
      go_roundw
      case rel => exact ⟨j + 1, S + (x * 256 + y), _, by omega, by go_num, rfl, by omega, by omega, hid (by rw [HT.out, HS.out]), rfl⟩
      case measure => simp [intOf]; omega
    · by_cases hodd : n % 2 = 1
      · have hj2 : n = 2 * j + 1 := by omega
        obtain ⟨b', off', e, hc⟩ := hl.cells (by omega)
        obtain ⟨rfl, rfl⟩ : b = b' ∧ off = off' := by simpa using e
        have q0 := hc (n - 1) (by omega)
        have w0 := u8Bd (hl.getD_wf (n - 1) (by omega))
        have HT := hid (ws_one l j (by rw [HLen.out]; omega))
        have HE : Hid (l.getD (2 * j) 0 = l.getD (n - 1) 0) := hid (by rw [show 2 * j = n - 1 from by omega])
        generalize l.getD (n - 1) 0 = x at *
        have hm1 : (n : Int) % 2 = 1 := by omega
        clear hc e
        have hj3 := hid hj2; clear hj2
        go_wp2_with (go_at_call 53; refine (fold1 _ _ (by omega) (by omega)).mono ?_; rintro e w' ⟨rfl, rfl⟩)
        go_ret
        exact ⟨rInt (by rw [HT.out, HE.out, ← HS.out]), m, rfl⟩
      · have HT := hid (ws_over l j (by rw [HLen.out]; omega))
        have hm1 : (n : Int) % 2 = 0 := by omega
        go_wp2_with (go_at_call 53; refine (fold1 _ _ (by omega) (by omega)).mono ?_; rintro e w' ⟨rfl, rfl⟩)
        go_ret
        exact ⟨rInt (by rw [← HT.out, ← HS.out]), m, rfl⟩
theorem part (w : World) (A : Option Addr) (n c : Nat) (l : List Int) (hl : Rd .u8 w A n l) (hn : n ≤ 140737488355328) :
    Calls Try.prog 33 #[.slice A n c] w fun e w' => e = .returned (.int .i64 (F (ws l))) ∧ ∃ m, w' = w.drewN m := by
  by_cases h : n = 0
  · subst h
    have : l = [] := List.eq_nil_of_length_eq_zero hl.len
    subst this
    exact part0 w A c
  · obtain ⟨b, off, rfl, _⟩ := hl.cells (by omega)
    exact part1 w b off n c l hl hn
theorem elemB : Elem Try.prog 26 5 .u8 1 := ⟨Try.underlying26, by kernel_rfl⟩
theorem ws_nil : ws [] = 0 := rfl
set_option maxHeartbeats 1000000 in
theorem rpart (w : World) (A : Option Addr) (n c : Nat) (l : List Int) (hl : Rd .u8 w A n l) (hn : n ≤ 140737488355328) :
    Calls Try.prog 49 #[.slice A n c] w fun e w' => e = .returned (.int .i64 (F (ws l))) ∧ ∃ m, w' = w.drewN m := by
  have HLen := hid hl.len
  have HWB := hid (ws_bd l (fun z hz => u8Bd (hl.wf z hz)))
  have HFB := hid F_bd
  go_enter Try.func49, Try.ntmps49
  go_wp2_with fail
  go_loopw [3, 4] (fun v i wr => ∃ (j : Nat) (S : Int) (m : Nat), 2 * j ≤ n + 1 ∧ i = .int .i64 (2 * j : Nat) ∧ v = .int .i64 S ∧ 0 ≤ S ∧ S ≤ 65535 ∧ Hid (S = F (ws (l.take (2 * j)))) ∧ wr = w.drewN m) (fun _ i _ => n - (intOf i).toNat)
  case atStart => exact ⟨0, 0, 0, by omega, rfl, rfl, by omega, by omega, hid (by simp [ws, F]), rfl⟩
  case round =>
    obtain ⟨j, S, m, hj, rfl, rfl, h0, h1, HS, rfl⟩ := hrel
    by_cases hlt : 2 * j < n
    · obtain ⟨b, off, rfl, hc⟩ := hl.cells (by omega)
      have q0 := hc (2 * j) (by omega)
      have w0 := u8Bd (hl.getD_wf (2 * j) (by omega))
      have hp := (ws_bd (l.take (2 * j)) (fun z hz => u8Bd (hl.wf z (List.mem_of_mem_take hz)))).1
      by_cases h2 : 2 * j + 1 < n
      · have q1 := hc (2 * j + 1) (by omega)
        have w1 := u8Bd (hl.getD_wf (2 * j + 1) (by omega))
        have HT := hid (ws_two l j (by rw [HLen.out]; omega))
        generalize l.getD (2 * j) 0 = x at *
        generalize l.getD (2 * j + 1) 0 = y at *
        have HFA := hid (F_add (ws (l.take (2 * j))) (x * 256 + y) hp (by omega))
        have hb := F_bd (S + x * 256 + y) (by omega)
        clear hc
        go_wp2_with fail
        try go_quiet (fail)
        go_wp2_with (go_at_call 63; refine (fold2 _ _ (by omega) (by omega)).mono ?_; rintro e w' ⟨rfl, rfl⟩)
        go_roundw
        case rel => exact ⟨j + 1, F (S + x * 256 + y), _, by omega, by go_num, rfl, hb.1, hb.2, hid (by rw [HT.out, ← HFA.out, ← HS.out, Int.add_assoc]), rfl⟩
        case measure => simp [intOf]; omega
      · have HT := hid (ws_one l j (by rw [HLen.out]; omega))
        have HO := hid (ws_over l (j + 1) (by rw [HLen.out]; omega))
        generalize l.getD (2 * j) 0 = x at *
        have HFA := hid (F_add (ws (l.take (2 * j))) (x * 256) hp (by omega))
        have hb := F_bd (S + x * 256) (by omega)
        clear hc
        go_wp2_with fail
        try go_quiet (fail)
        go_wp2_with (go_at_call 63; refine (fold2 _ _ (by omega) (by omega)).mono ?_; rintro e w' ⟨rfl, rfl⟩)
        go_roundw
        case rel => exact ⟨j + 1, F (S + x * 256), _, by omega, by go_num, rfl, hb.1, hb.2, hid (by rw [HO.out, HT.out, ← HFA.out, ← HS.out]), rfl⟩
        case measure => simp [intOf]; omega
    · have HO := hid (ws_over l j (by rw [HLen.out]; omega))
      go_wp2
      go_ret
      exact ⟨rInt (by rw [HS.out, HO.out]), m, rfl⟩
def sumF (l : List Int) : Int := 65535 - F (ws l)
theorem sum1 (w : World) (A : Option Addr) (n c : Nat) (l : List Int) (hl : Rd .u8 w A n l) (hn : n ≤ 140737488355328) :
    Calls Try.prog 14 #[.slice A n c] w fun e w' => e = .returned (.int .i64 (sumF l)) ∧ ∃ m, w' = w.drewN m := by
  have hb := F_bd (ws l) (ws_bd l (fun z hz => u8Bd (hl.wf z hz))).1
  have HS : Hid (sumF l = 65535 - F (ws l)) := hid rfl
  go_enter Try.func14, Try.ntmps14
  go_wp2_with (go_at_call 33; refine (part w A n c l hl hn).mono ?_; rintro e w' ⟨rfl, m, rfl⟩)
  go_ret
  exact ⟨rInt HS.out.symm, m, rfl⟩
theorem sum2 (w : World) (A : Option Addr) (n c : Nat) (l : List Int) (hl : Rd .u8 w A n l) (hn : n ≤ 140737488355328) :
    Calls Try.prog 28 #[.slice A n c] w fun e w' => e = .returned (.int .i64 (sumF l)) ∧ ∃ m, w' = w.drewN m := by
  have hb := F_bd (ws l) (ws_bd l (fun z hz => u8Bd (hl.wf z hz))).1
  have HS : Hid (sumF l = 65535 - F (ws l)) := hid rfl
  go_enter Try.func28, Try.ntmps28
  go_wp2_with (go_at_call 49; refine (rpart w A n c l hl hn).mono ?_; rintro e w' ⟨rfl, m, rfl⟩)
  go_ret
  exact ⟨rInt HS.out.symm, m, rfl⟩
end Go.Proofs.Ytodcjokafjdhdaa.oct
