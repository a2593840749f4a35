/-
  Chapter 6 (ipv4): a text's number, and its address, by a walk of each text; strings.SplitN by the library's contract. Conditions: none but those typed.
-/
import Derived.Test.YtaoeflngdlgboaaDoorIpS
import Derived.Test.YtaoeflngdlgboaaDoorOrm
import Derived.Laws.Strings
namespace Go.Proofs.YtaoeflngdlgboaaDoor.ip
set_option linter.unusedVariables false
set_option linter.unusedSimpArgs false
open Go.ChangeShapes Go.WideShapes Go.ChangeAt Go.RowKit Go.IntWalk Go.Lib
/-- A text's byte at a place. -/
def ch (s : ByteArray) (i : Nat) : Int := ((s.data.toList.getD i 0).toNat : Int)
theorem ch_bd (s : ByteArray) (i : Nat) : 0 ≤ ch s i ∧ ch s i ≤ 255 := by
  unfold ch
  have := (s.data.toList.getD i 0).toNat_lt
  omega
theorem ixs (s : ByteArray) (i : Nat) (h : i < s.size) (W : World) : (Instr.index 9 (.string s) (.int .i64 (i : Int))).run Tryd.prog W = .ok (.int .u8 (ch s i)) W := by
  rw [run_index_string W 9 s .i64 (i : Int) Tryd.underlying9, dif_pos ⟨by omega, by omega⟩]
  have hl : i < s.data.toList.length := by rw [Array.length_toList]; exact h
  have e : (s[((i : Nat) : Int).toNat]'(by omega)) = s.data.toList.getD i 0 := by
    simp only [Int.toNat_natCast]
    rw [List.getD_eq_getElem?_getD, List.getElem?_eq_getElem hl]
    rfl
  unfold ch
  rw [e]
/-- What the first i digits say. -/
def dv (s : ByteArray) : Nat → Int
  | 0 => 0
  | i + 1 => dv s i * 10 + (ch s i - 48)
def dg (s : ByteArray) (i : Nat) : Prop := 48 ≤ ch s i ∧ ch s i ≤ 57
theorem dv_bd (s : ByteArray) : ∀ i : Nat, (∀ j, j < i → dg s j) → 0 ≤ dv s i ∧ dv s i ≤ 10 ^ i - 1
  | 0, _ => by simp [dv]
  | i + 1, h => by
    have h1 := dv_bd s i (fun j hj => h j (by omega))
    have h2 := h i (by omega)
    unfold dg at h2
    have e : (10 : Int) ^ (i + 1) = 10 ^ i * 10 := Int.pow_succ _ _
    simp only [dv]
    omega
/-- The number that a text denotes, if it denotes one. -/
def okN (s : ByteArray) : Bool := decide (1 ≤ s.size ∧ s.size ≤ 3 ∧ ¬ (1 < s.size ∧ ch s 0 = 48) ∧ (∀ j, j < s.size → 48 ≤ ch s j ∧ ch s j ≤ 57) ∧ dv s s.size ≤ 255)
def num (s : ByteArray) : Int := if okN s = true then dv s s.size else 0
theorem num_bd (s : ByteArray) : 0 ≤ num s ∧ num s ≤ 255 := by
  unfold num
  split
  · rename_i h
    unfold okN at h
    have h2 := of_decide_eq_true h
    have := dv_bd s s.size (fun j hj => h2.2.2.2.1 j hj)
    omega
  · omega
set_option maxRecDepth 100000 in
set_option maxHeartbeats 4000000 in
theorem number1 (w : World) (s : ByteArray) : Calls Tryd.prog 42 #[.string s] w fun x w' => x = .returned (.tuple #[.int .i64 (num s), .bool (okN s)]) ∧ w = w' := by
  have HBad : Hid (¬ (1 ≤ s.size ∧ s.size ≤ 3 ∧ ¬ (1 < s.size ∧ ch s 0 = 48) ∧ (∀ j, j < s.size → 48 ≤ ch s j ∧ ch s j ≤ 57) ∧ dv s s.size ≤ 255) → num s = 0 ∧ okN s = false) := hid (fun h => by
    have e : okN s = false := decide_eq_false h
    exact ⟨by unfold num; rw [e]; rfl, e⟩)
  have HGood : Hid ((1 ≤ s.size ∧ s.size ≤ 3 ∧ ¬ (1 < s.size ∧ ch s 0 = 48) ∧ (∀ j, j < s.size → 48 ≤ ch s j ∧ ch s j ≤ 57) ∧ dv s s.size ≤ 255) → num s = dv s s.size ∧ okN s = true) := hid (fun h => by
    have e : okN s = true := decide_eq_true h
    exact ⟨by unfold num; rw [if_pos e], e⟩)
  by_cases h1 : s.size < 1
  · have HNo : Hid (num s = 0 ∧ okN s = false) := hid (HBad.out (by intro h; omega))
    have d1 : decide ((s.size : Int) < 1) = true := decide_eq_true (by omega)
    go_enter Tryd.func42, Tryd.ntmps42
    go_wp2
    all_goals first
      | (exfalso; omega)
      | (go_ret2; exact ⟨by rw [HNo.out.1, HNo.out.2]; rfl, by trivial⟩)
  · have e1 : decide ((s.size : Int) < 1) = false := decide_eq_false (by omega)
    by_cases h3 : 3 < s.size
    · have HNo : Hid (num s = 0 ∧ okN s = false) := hid (HBad.out (by intro h; omega))
      have d2 : decide ((3 : Int) < s.size) = true := decide_eq_true (by omega)
      go_enter Tryd.func42, Tryd.ntmps42
      go_wp2
      all_goals first
        | (exfalso; omega)
        | (go_ret2; exact ⟨by rw [HNo.out.1, HNo.out.2]; rfl, by trivial⟩)
    · have e3 : decide ((3 : Int) < s.size) = false := decide_eq_false (by omega)
      have ix0 : ∀ W, (Instr.index 9 (.string s) (.int .i64 0)).run Tryd.prog W = .ok (.int .u8 (ch s 0)) W := ixs s 0 (by omega)
      by_cases h0 : 1 < s.size ∧ ch s 0 = 48
      · have HNo : Hid (num s = 0 ∧ okN s = false) := hid (HBad.out (by intro h; exact h.2.2.1 h0))
        have d4 : decide ((1 : Int) < s.size) = true := decide_eq_true (by omega)
        have d5 : (ch s 0 == 48) = true := by simpa using h0.2
        have H0 := hid h0; clear h0
        go_enter Tryd.func42, Tryd.ntmps42
        go_wp2
        all_goals first
          | (exfalso; omega)
          | (go_ret2; exact ⟨by rw [HNo.out.1, HNo.out.2]; rfl, by trivial⟩)
      · have HS := hid h0
        have HR : ∀ W : World, Hid (decide ((1 : Int) < s.size) = true ∧ (ch s 0 == 48) = false ∨ decide ((1 : Int) < s.size) = false) := fun _ => hid (by
          by_cases h4 : 1 < s.size
          · left
            exact ⟨decide_eq_true (by omega), by have : ch s 0 ≠ 48 := fun e => h0 ⟨h4, e⟩
                                                 simpa using this⟩
          · right; exact decide_eq_false (by omega))
        have hrr := (HR w).out
        have hcs : ∀ W : World, W = W := fun _ => rfl
        clear h0 HR hcs
        have main : ∀ hq : (decide ((1 : Int) < s.size) = true ∧ (ch s 0 == 48) = false) ∨ decide ((1 : Int) < s.size) = false, Calls Tryd.prog 42 #[.string s] w fun x w' => x = .returned (.tuple #[.int .i64 (num s), .bool (okN s)]) ∧ w = w' := by
          intro hq
          rcases hq with ⟨d4, d5⟩ | d4
          all_goals
            go_enter Tryd.func42, Tryd.ntmps42
            go_wp2
            go_loopw [4, 26] (fun n ct wr => ∃ k : Nat, k ≤ s.size ∧ ct = .int .i64 k ∧ n = .int .i64 (dv s k) ∧ Hid (∀ j, j < k → dg s j) ∧ wr = w) (fun _ ct _ => s.size - (RowKit.intOf ct).toNat)
            case atStart => exact ⟨0, by omega, rfl, rfl, hid (fun j hj => absurd hj (by omega)), by trivial⟩
            case round =>
              obtain ⟨k, hk, rfl, rfl, HD, rfl⟩ := hrel
              clear ix0
              by_cases hlt : k < s.size
              · have ix := ixs s k hlt
                have hcb := ch_bd s k
                have hdb := dv_bd s k HD.out
                have hp : (10 : Int) ^ k ≤ 100 := by
                  have : k ≤ 2 := by omega
                  rcases (show k = 0 ∨ k = 1 ∨ k = 2 by omega) with rfl | rfl | rfl <;> decide
                have HDV : Hid (dv s (k + 1) = dv s k * 10 + (ch s k - 48)) := hid rfl
                have hlt2 : (k : Int) < s.size := by omega
                by_cases hz : 48 ≤ ch s k ∧ ch s k ≤ 57
                · obtain ⟨z1, z2⟩ := hz
                  have HN : Hid (∀ j, j < k + 1 → dg s j) := hid (fun j hj => by
                    rcases Nat.lt_or_ge j k with h5 | h5
                    · exact HD.out j h5
                    · obtain rfl : j = k := by omega
                      exact ⟨z1, z2⟩)
                  generalize dv s k = dvk at *
                  generalize ch s k = c at *
                  have f1 : decide (c < 48) = false := decide_eq_false (by omega)
                  have f2 : decide (57 < c) = false := decide_eq_false (by omega)
                  go_wp2
                  go_roundw
                  case rel => exact ⟨k + 1, by omega, by go_num, by rw [HDV.out], HN, by trivial⟩
                  case measure => simp [RowKit.intOf]; omega
                · have HNo : Hid (num s = 0 ∧ okN s = false) := hid (HBad.out (fun h => hz (h.2.2.2.1 k hlt)))
                  generalize dv s k = dvk at *
                  generalize ch s k = c at *
                  by_cases z1 : c < 48
                  · have f1 : decide (c < 48) = true := decide_eq_true z1
                    clear hz
                    go_wp2
                    go_ret2
                    exact ⟨by rw [HNo.out.1, HNo.out.2]; rfl, rfl⟩
                  · have f1 : decide (c < 48) = false := decide_eq_false z1
                    have f2 : decide (57 < c) = true := decide_eq_true (by omega)
                    clear hz
                    go_wp2
                    go_ret2
                    exact ⟨by rw [HNo.out.1, HNo.out.2]; rfl, rfl⟩
              · obtain rfl : k = s.size := by omega
                by_cases hv : dv s s.size ≤ 255
                · have HYes : Hid (num s = dv s s.size ∧ okN s = true) := hid (HGood.out ⟨by omega, by omega, HS.out, fun j hj => HD.out j hj, hv⟩)
                  have f3 : decide (255 < dv s s.size) = false := decide_eq_false (by omega)
                  go_wp2
                  go_ret2
                  exact ⟨by rw [HYes.out.1, HYes.out.2]; rfl, rfl⟩
                · have HNo : Hid (num s = 0 ∧ okN s = false) := hid (HBad.out (fun h => hv h.2.2.2.2))
                  have f3 : decide (255 < dv s s.size) = true := decide_eq_true (by omega)
                  go_wp2
                  go_ret2
                  exact ⟨by rw [HNo.out.1, HNo.out.2]; rfl, rfl⟩
        exact main hrr
end Go.Proofs.YtaoeflngdlgboaaDoor.ip
