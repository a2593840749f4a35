/-
  Contracts of the functions of chapter 12 (seq), each by a walk of its text, part 5. Conditions: none but those typed.
-/
import Derived.Test.YtemjoiionpomoaaW3
namespace Go.Proofs.Ytemjoiionpomoaa
set_option linter.unusedVariables false
set_option linter.unusedSimpArgs false
open Go.ChangeShapes Go.WideShapes Go.ChangeAt Go.RowKit Go.IntWalk Go.Lib
theorem trimsLaw (a n q m : Int) (w : World) : Calls Try.prog 6 #[.int .u32 a, .int .i64 n, .int .u32 q, .int .i64 m] w fun e w' => e = .returned (.bool true) ∧ w' = w := by
  go_enter Try.func6, Try.ntmps6
  go_wp2_with (first | (go_at_call 9; refine (diff1 _ _ _).mono ?_; rintro e w' ⟨rfl, rfl⟩) | (go_at_call 10; refine (diff2 _ _ _).mono ?_; rintro e w' ⟨rfl, rfl⟩) | (go_at_call 11; refine (less1 _ _ _).mono ?_; rintro e w' ⟨rfl, rfl⟩) | (go_at_call 12; refine (less2 _ _ _).mono ?_; rintro e w' ⟨rfl, rfl⟩) | (go_at_call 13; refine (max1 _ _ _).mono ?_; rintro e w' ⟨rfl, rfl⟩) | (go_at_call 14; refine (max2 _ _ _).mono ?_; rintro e w' ⟨rfl, rfl⟩) | (go_at_call 15; refine (known _).mono ?_; rintro e w' ⟨rfl, rfl⟩) | (go_at_call 16; refine (in1 _ _ _ _).mono ?_; rintro e w' ⟨rfl, rfl⟩) | (go_at_call 20; refine (trim1 _ _ _ _ _).mono ?_; rintro e w' ⟨rfl, rfl⟩) | (go_at_call 21; refine (trim2 _ _ _ _ _).mono ?_; rintro e w' ⟨rfl, rfl⟩))
  go_ret
  exact ⟨rfl, rfl⟩
theorem insideOut (q d n m : Int) (w : World) (h : d < -300 ∨ 300 < d ∨ n < 1 ∨ 300 < n ∨ m < 1 ∨ 300 < m) : Calls Try.prog 8 #[.int .u32 q, .int .i64 d, .int .i64 n, .int .i64 m] w fun e w' => e = .returned (.bool true) ∧ w' = w := by
  go_enter Try.func8, Try.ntmps8
  go_wp2_with (first | (go_at_call 15; refine (known _).mono ?_; rintro e w' ⟨rfl, rfl⟩))
  all_goals (first | (go_ret; exact ⟨rfl, rfl⟩) | (exfalso; omega))
def inR (q d n m i : Int) : Bool := decide (trF ((q + d) % 4294967296) n q m ≤ i) && decide (i < trF ((q + d) % 4294967296) n q m + trM ((q + d) % 4294967296) n q m)
set_option maxHeartbeats 1000000 in
theorem inR_eq (q d n m i : Int) (hq : 0 ≤ q) (hq' : q ≤ 4294967295) (h : ¬ d < -300) (h2 : ¬ 300 < d) (h3 : ¬ n < 1) (h4 : ¬ 300 < n) (h5 : ¬ m < 1) (h6 : ¬ 300 < m) (hi : 0 ≤ i) (hi' : i < n) :
   inB ((q + d + i) % 4294967296) q m = inR q d n m i := by
  have hD : dif ((q + d) % 4294967296) q = d := by unfold dif; omega
  have e : ((q + d + i) % 4294967296 - q) % 4294967296 = (d + i) % 4294967296 := by omega
  have hM := trM_eq ((q + d) % 4294967296) n q m d hD.symm (by omega) (by omega)
  have hF : trF ((q + d) % 4294967296) n q m = if trM ((q + d) % 4294967296) n q m = 0 then 0 else max (-d) 0 := by unfold trF; rw [hD]
  unfold inB inR
  rw [e, hF, hM, Bool.eq_iff_iff]
  simp only [decide_eq_true_eq, Bool.and_eq_true]
  omega
theorem insideIn (q d n m : Int) (w : World) (hq : 0 ≤ q) (hq' : q ≤ 4294967295) (h : ¬ d < -300) (h2 : ¬ 300 < d) (h3 : ¬ n < 1) (h4 : ¬ 300 < n) (h5 : ¬ m < 1) (h6 : ¬ 300 < m) : Calls Try.prog 8 #[.int .u32 q, .int .i64 d, .int .i64 n, .int .i64 m] w fun e w' => e = .returned (.bool true) ∧ w' = w := by
  have HI : Hid (∀ i, 0 ≤ i → i < n → inB ((q + d + i) % 4294967296) q m = inR q d n m i) := hid fun i a b => inR_eq q d n m i hq hq' h h2 h3 h4 h5 h6 a b
  have hb := trM_le ((q + d) % 4294967296) n q m
  have hbn : trF ((q + d) % 4294967296) n q m + trM ((q + d) % 4294967296) n q m ≤ n := by
    unfold trF trM; omega
  go_enter Try.func8, Try.ntmps8
  go_wp2_with (first | (go_at_call 9; refine (diff1 _ _ _).mono ?_; rintro e w' ⟨rfl, rfl⟩) | (go_at_call 10; refine (diff2 _ _ _).mono ?_; rintro e w' ⟨rfl, rfl⟩) | (go_at_call 11; refine (less1 _ _ _).mono ?_; rintro e w' ⟨rfl, rfl⟩) | (go_at_call 12; refine (less2 _ _ _).mono ?_; rintro e w' ⟨rfl, rfl⟩) | (go_at_call 13; refine (max1 _ _ _).mono ?_; rintro e w' ⟨rfl, rfl⟩) | (go_at_call 14; refine (max2 _ _ _).mono ?_; rintro e w' ⟨rfl, rfl⟩) | (go_at_call 15; refine (known _).mono ?_; rintro e w' ⟨rfl, rfl⟩) | (go_at_call 16; refine (in1 _ _ _ _).mono ?_; rintro e w' ⟨rfl, rfl⟩) | (go_at_call 20; refine (trim1 _ _ _ _ _).mono ?_; rintro e w' ⟨rfl, rfl⟩) | (go_at_call 21; refine (trim2 _ _ _ _ _).mono ?_; rintro e w' ⟨rfl, rfl⟩))
  go_loop [12, 13] (fun c i => ∃ k : Nat, k ≤ n ∧ i = .int .i64 k ∧ c = .int .i64 (max 0 (min (trM ((q + d) % 4294967296) n q m) (k - trF ((q + d) % 4294967296) n q m)))) (fun _ i => n.toNat - (intOf i).toNat)
  case atStart => exact ⟨0, by omega, rfl, by go_num⟩
  case round =>
    obtain ⟨k, hk, rfl, rfl⟩ := hrel
    by_cases hlt : (k : Int) < n
    · have hin := HI.out k (by omega) hlt
      unfold inR at hin
      by_cases ha : trF ((q + d) % 4294967296) n q m ≤ k <;> by_cases hb : k < trF ((q + d) % 4294967296) n q m + trM ((q + d) % 4294967296) n q m
      all_goals
        simp only [ha, hb, decide_true, decide_false, Bool.and_true, Bool.and_false] at hin
        go_wp2_with (first | (go_at_call 16; refine (in1 _ _ _ _).mono ?_; rintro e w' ⟨rfl, rfl⟩))
        all_goals
          go_round
          case rel => exact ⟨k + 1, by omega, by go_num, by first | go_num | (congr 1; omega)⟩
          case measure => simp [intOf]; omega
    · have hk' : (k : Int) = n := by omega
      have hc : max 0 (min (trM ((q + d) % 4294967296) n q m) ((k : Int) - trF ((q + d) % 4294967296) n q m)) = trM ((q + d) % 4294967296) n q m := by omega
      have hc' := hid hc
      clear hc
      go_wp2_with (first | (go_at_call 15; refine (known _).mono ?_; rintro e w' ⟨rfl, rfl⟩))
      go_ret
      exact ⟨rfl, rfl⟩
theorem insideLaw (q d n m : Int) (w : World) (hq : 0 ≤ q) (hq' : q ≤ 4294967295) : Calls Try.prog 8 #[.int .u32 q, .int .i64 d, .int .i64 n, .int .i64 m] w fun e w' => e = .returned (.bool true) ∧ w' = w := by
  by_cases h : d < -300 ∨ 300 < d ∨ n < 1 ∨ 300 < n ∨ m < 1 ∨ 300 < m
  · exact insideOut q d n m w h
  · exact insideIn q d n m w hq hq' (by omega) (by omega) (by omega) (by omega) (by omega) (by omega)
end Go.Proofs.Ytemjoiionpomoaa
