/-
  One byte of a row turned into another, and the sum. Conditions: none but those typed.
-/
import Derived.Test.YtaoeflngdlgboaaDoorSum6
import Derived.Laws.BitsAllLaws
namespace Go.Proofs.YtaoeflngdlgboaaDoor.oct
set_option linter.unusedVariables false
set_option linter.unusedSimpArgs false
open Go.ChangeShapes Go.WideShapes Go.ChangeAt Go.RowKit Go.IntWalk Go.Lib
theorem ws_set : ∀ (l : List Int) (i : Nat) (v : Int), i < l.length → ws (l.set i v) = ws l + (v - l.getD i 0) * (if i % 2 = 0 then 256 else 1)
  | [], i, v, h => by simp at h
  | [a], 0, v, h => by simp [ws]; omega
  | [a], i + 1, v, h => by simp at h
  | a :: b :: r, 0, v, _ => by simp [ws]; omega
  | a :: b :: r, 1, v, _ => by simp [ws]; omega
  | a :: b :: r, i + 2, v, h => by
    have := ws_set r i v (by simp at h; omega)
    simp only [List.set_cons_succ, ws, this, List.getD_cons_succ, Nat.add_mod_right]
    omega
theorem turned_ne (T x v : Int) (i : Nat) (hT : 0 ≤ T) (h0 : 65535 - F T = 0) (hx : 0 ≤ x ∧ x ≤ 255) (hv : 0 ≤ v ∧ v ≤ 255) (hne : v ≠ x) (hT' : 0 ≤ T + (v - x) * (if i % 2 = 0 then 256 else 1)) :
    65535 - F (T + (v - x) * (if i % 2 = 0 then 256 else 1)) ≠ 0 := by
  unfold F at *
  split <;> split at h0 <;> omega
theorem xor_ne (x y : Int) (hx : 0 ≤ x ∧ x ≤ 255) (hy : 0 ≤ y ∧ y ≤ 255) (hne : y ≠ 0) : 0 ≤ bits .xor .u8 x y ∧ bits .xor .u8 x y ≤ 255 ∧ bits .xor .u8 x y ≠ x := by
  rw [u8_xor x y hx.1 (by omega) hy.1 (by omega)]
  have h1 : x.toNat ^^^ y.toNat < 2 ^ 8 := Nat.xor_lt_two_pow (by omega) (by omega)
  refine ⟨by omega, by omega, fun h => ?_⟩
  have h2 : x.toNat ^^^ (x.toNat ^^^ y.toNat) = y.toNat := by rw [← Nat.xor_assoc, Nat.xor_self, Nat.zero_xor]
  rw [show x.toNat ^^^ y.toNat = x.toNat from by omega, Nat.xor_self] at h2
  omega
theorem sum_turned (l : List Int) (i : Nat) (v : Int) (h : ∀ z ∈ l, 0 ≤ z ∧ z ≤ 255) (hi : i < l.length) (h0 : sumF l = 0) (hv : 0 ≤ v ∧ v ≤ 255) (hne : v ≠ l.getD i 0) : sumF (l.set i v) ≠ 0 := by
  have hx : 0 ≤ l.getD i 0 ∧ l.getD i 0 ≤ 255 := by
    rw [List.getD_eq_getElem?_getD, List.getElem?_eq_getElem hi]
    exact h _ (List.getElem_mem hi)
  have hb := (ws_bd (l.set i v) (fun z hz => by
    rcases List.mem_or_eq_of_mem_set hz with h1 | h1
    · exact h z h1
    · rw [h1]; exact hv)).1
  have e := ws_set l i v hi
  rw [e] at hb
  show 65535 - F (ws (l.set i v)) ≠ 0
  rw [e]
  exact turned_ne (ws l) (l.getD i 0) v i (ws_bd l h).1 h0 hx hv hne hb
end Go.Proofs.YtaoeflngdlgboaaDoor.oct
