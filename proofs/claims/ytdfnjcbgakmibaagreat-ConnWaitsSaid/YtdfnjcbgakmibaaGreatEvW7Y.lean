/-
  Every number. Conditions: none.
-/
import Derived.Test.YtdfnjcbgakmibaaGreatEvW7Z
import Derived.Test.YtdfnjcbgakmibaaGreatEvV
import Derived.Test.YtdfnjcbgakmibaaGreatEvBd
namespace Go.Proofs.YtdfnjcbgakmibaaGreat.ev
set_option maxRecDepth 1000000
set_option linter.unusedVariables false
set_option linter.unusedSimpArgs false
theorem waits_lo_false (w : World) (n : Int) (hn0 : -9223372036854775808 ≤ n) (hn1 : n ≤ 9223372036854775807) (c0 : n < 2) : Calls Tryz.prog 4 #[.int .i64 n, .bool false] w (fun e w' => e = .returned (.bool true) ∧ Only [] w w') := by
  letI : Env := env [.int .i64 n]
  refine lawS [.int .i64 n] [.bin .lss (.chan (some 0)) (.int .i64 2) (.bool true)] (sp := (spKnown 16)) (spKnown_ok knownBody known) ?_ (f := 300) (args := [.chan (some 0), .bool false]) (args' := [.int .i64 n, .bool false]) (by kernel_rfl) ?_ w
  · intro e he
    simp only [List.mem_cons, List.not_mem_nil, or_false] at he
    subst he
    · exact entCmp (k := .i64) (a := n) (b := 2) rfl rfl (by show some (decide ((n : Int) < 2)) = some true; rw [decide_eq_true (by first | omega | (simp only [sumVal, oct.sumF, oct.F, oct.ws]; omega))])
  · exact (PW.cons (.opq 0 rfl (fun b h => by cases h)) (PW.cons (VR.of_flat 6 _ rfl) (PW.nil _)))
theorem waits_hi_false (w : World) (n : Int) (hn0 : -9223372036854775808 ≤ n) (hn1 : n ≤ 9223372036854775807) (c0 : ¬ (n < 2)) (c1 : n > 50) : Calls Tryz.prog 4 #[.int .i64 n, .bool false] w (fun e w' => e = .returned (.bool true) ∧ Only [] w w') := by
  letI : Env := env [.int .i64 n]
  refine lawS [.int .i64 n] [.bin .lss (.chan (some 0)) (.int .i64 2) (.bool false), .bin .gtr (.chan (some 0)) (.int .i64 50) (.bool true)] (sp := (spKnown 16)) (spKnown_ok knownBody known) ?_ (f := 300) (args := [.chan (some 0), .bool false]) (args' := [.int .i64 n, .bool false]) (by kernel_rfl) ?_ w
  · intro e he
    simp only [List.mem_cons, List.not_mem_nil, or_false] at he
    rcases he with rfl | rfl
    · exact entCmp (k := .i64) (a := n) (b := 2) rfl rfl (by show some (decide ((n : Int) < 2)) = some false; rw [decide_eq_false (by first | omega | (simp only [sumVal, oct.sumF, oct.F, oct.ws]; omega))])
    · exact entCmp (k := .i64) (a := n) (b := 50) rfl rfl (by show some (decide ((n : Int) > 50)) = some true; rw [decide_eq_true (by first | omega | (simp only [sumVal, oct.sumF, oct.F, oct.ws]; omega))])
  · exact (PW.cons (.opq 0 rfl (fun b h => by cases h)) (PW.cons (VR.of_flat 6 _ rfl) (PW.nil _)))
theorem waits_lo_true (w : World) (n : Int) (hn0 : -9223372036854775808 ≤ n) (hn1 : n ≤ 9223372036854775807) (c0 : n < 2) : Calls Tryz.prog 4 #[.int .i64 n, .bool true] w (fun e w' => e = .returned (.bool true) ∧ Only [] w w') := by
  letI : Env := env [.int .i64 n]
  refine lawS [.int .i64 n] [.bin .lss (.chan (some 0)) (.int .i64 2) (.bool true)] (sp := (spKnown 16)) (spKnown_ok knownBody known) ?_ (f := 300) (args := [.chan (some 0), .bool true]) (args' := [.int .i64 n, .bool true]) (by kernel_rfl) ?_ w
  · intro e he
    simp only [List.mem_cons, List.not_mem_nil, or_false] at he
    subst he
    · exact entCmp (k := .i64) (a := n) (b := 2) rfl rfl (by show some (decide ((n : Int) < 2)) = some true; rw [decide_eq_true (by first | omega | (simp only [sumVal, oct.sumF, oct.F, oct.ws]; omega))])
  · exact (PW.cons (.opq 0 rfl (fun b h => by cases h)) (PW.cons (VR.of_flat 6 _ rfl) (PW.nil _)))
theorem waits_hi_true (w : World) (n : Int) (hn0 : -9223372036854775808 ≤ n) (hn1 : n ≤ 9223372036854775807) (c0 : ¬ (n < 2)) (c1 : n > 50) : Calls Tryz.prog 4 #[.int .i64 n, .bool true] w (fun e w' => e = .returned (.bool true) ∧ Only [] w w') := by
  letI : Env := env [.int .i64 n]
  refine lawS [.int .i64 n] [.bin .lss (.chan (some 0)) (.int .i64 2) (.bool false), .bin .gtr (.chan (some 0)) (.int .i64 50) (.bool true)] (sp := (spKnown 16)) (spKnown_ok knownBody known) ?_ (f := 300) (args := [.chan (some 0), .bool true]) (args' := [.int .i64 n, .bool true]) (by kernel_rfl) ?_ w
  · intro e he
    simp only [List.mem_cons, List.not_mem_nil, or_false] at he
    rcases he with rfl | rfl
    · exact entCmp (k := .i64) (a := n) (b := 2) rfl rfl (by show some (decide ((n : Int) < 2)) = some false; rw [decide_eq_false (by first | omega | (simp only [sumVal, oct.sumF, oct.F, oct.ws]; omega))])
    · exact entCmp (k := .i64) (a := n) (b := 50) rfl rfl (by show some (decide ((n : Int) > 50)) = some true; rw [decide_eq_true (by first | omega | (simp only [sumVal, oct.sumF, oct.F, oct.ws]; omega))])
  · exact (PW.cons (.opq 0 rfl (fun b h => by cases h)) (PW.cons (VR.of_flat 6 _ rfl) (PW.nil _)))
theorem waitsAll_false (w : World) (n : Int) (hn0 : -9223372036854775808 ≤ n) (hn1 : n ≤ 9223372036854775807) : Calls Tryz.prog 4 #[.int .i64 n, .bool false] w (fun e w' => e = .returned (.bool true) ∧ Only [] w w') := by
  by_cases c0 : n < 2
  · exact waits_lo_false w n hn0 hn1 c0
  by_cases c1 : n > 50
  · exact waits_hi_false w n hn0 hn1 c0 c1
  have h : n = 2 ∨ n = 3 ∨ n = 4 ∨ n = 5 ∨ n = 6 ∨ n = 7 ∨ n = 8 ∨ n = 9 ∨ n = 10 ∨ n = 11 ∨ n = 12 ∨ n = 13 ∨ n = 14 ∨ n = 15 ∨ n = 16 ∨ n = 17 ∨ n = 18 ∨ n = 19 ∨ n = 20 ∨ n = 21 ∨ n = 22 ∨ n = 23 ∨ n = 24 ∨ n = 25 ∨ n = 26 ∨ n = 27 ∨ n = 28 ∨ n = 29 ∨ n = 30 ∨ n = 31 ∨ n = 32 ∨ n = 33 ∨ n = 34 ∨ n = 35 ∨ n = 36 ∨ n = 37 ∨ n = 38 ∨ n = 39 ∨ n = 40 ∨ n = 41 ∨ n = 42 ∨ n = 43 ∨ n = 44 ∨ n = 45 ∨ n = 46 ∨ n = 47 ∨ n = 48 ∨ n = 49 ∨ n = 50 := by omega
  rcases h with rfl | rfl | rfl | rfl | rfl | rfl | rfl | rfl | rfl | rfl | rfl | rfl | rfl | rfl | rfl | rfl | rfl | rfl | rfl | rfl | rfl | rfl | rfl | rfl | rfl | rfl | rfl | rfl | rfl | rfl | rfl | rfl | rfl | rfl | rfl | rfl | rfl | rfl | rfl | rfl | rfl | rfl | rfl | rfl | rfl | rfl | rfl | rfl | rfl
  · exact waits_false_2 w
  · exact waits_false_3 w
  · exact waits_false_4 w
  · exact waits_false_5 w
  · exact waits_false_6 w
  · exact waits_false_7 w
  · exact waits_false_8 w
  · exact waits_false_9 w
  · exact waits_false_10 w
  · exact waits_false_11 w
  · exact waits_false_12 w
  · exact waits_false_13 w
  · exact waits_false_14 w
  · exact waits_false_15 w
  · exact waits_false_16 w
  · exact waits_false_17 w
  · exact waits_false_18 w
  · exact waits_false_19 w
  · exact waits_false_20 w
  · exact waits_false_21 w
  · exact waits_false_22 w
  · exact waits_false_23 w
  · exact waits_false_24 w
  · exact waits_false_25 w
  · exact waits_false_26 w
  · exact waits_false_27 w
  · exact waits_false_28 w
  · exact waits_false_29 w
  · exact waits_false_30 w
  · exact waits_false_31 w
  · exact waits_false_32 w
  · exact waits_false_33 w
  · exact waits_false_34 w
  · exact waits_false_35 w
  · exact waits_false_36 w
  · exact waits_false_37 w
  · exact waits_false_38 w
  · exact waits_false_39 w
  · exact waits_false_40 w
  · exact waits_false_41 w
  · exact waits_false_42 w
  · exact waits_false_43 w
  · exact waits_false_44 w
  · exact waits_false_45 w
  · exact waits_false_46 w
  · exact waits_false_47 w
  · exact waits_false_48 w
  · exact waits_false_49 w
  · exact waits_false_50 w
theorem waitsAll_true (w : World) (n : Int) (hn0 : -9223372036854775808 ≤ n) (hn1 : n ≤ 9223372036854775807) : Calls Tryz.prog 4 #[.int .i64 n, .bool true] w (fun e w' => e = .returned (.bool true) ∧ Only [] w w') := by
  by_cases c0 : n < 2
  · exact waits_lo_true w n hn0 hn1 c0
  by_cases c1 : n > 50
  · exact waits_hi_true w n hn0 hn1 c0 c1
  have h : n = 2 ∨ n = 3 ∨ n = 4 ∨ n = 5 ∨ n = 6 ∨ n = 7 ∨ n = 8 ∨ n = 9 ∨ n = 10 ∨ n = 11 ∨ n = 12 ∨ n = 13 ∨ n = 14 ∨ n = 15 ∨ n = 16 ∨ n = 17 ∨ n = 18 ∨ n = 19 ∨ n = 20 ∨ n = 21 ∨ n = 22 ∨ n = 23 ∨ n = 24 ∨ n = 25 ∨ n = 26 ∨ n = 27 ∨ n = 28 ∨ n = 29 ∨ n = 30 ∨ n = 31 ∨ n = 32 ∨ n = 33 ∨ n = 34 ∨ n = 35 ∨ n = 36 ∨ n = 37 ∨ n = 38 ∨ n = 39 ∨ n = 40 ∨ n = 41 ∨ n = 42 ∨ n = 43 ∨ n = 44 ∨ n = 45 ∨ n = 46 ∨ n = 47 ∨ n = 48 ∨ n = 49 ∨ n = 50 := by omega
  rcases h with rfl | rfl | rfl | rfl | rfl | rfl | rfl | rfl | rfl | rfl | rfl | rfl | rfl | rfl | rfl | rfl | rfl | rfl | rfl | rfl | rfl | rfl | rfl | rfl | rfl | rfl | rfl | rfl | rfl | rfl | rfl | rfl | rfl | rfl | rfl | rfl | rfl | rfl | rfl | rfl | rfl | rfl | rfl | rfl | rfl | rfl | rfl | rfl | rfl
  · exact waits_true_2 w
  · exact waits_true_3 w
  · exact waits_true_4 w
  · exact waits_true_5 w
  · exact waits_true_6 w
  · exact waits_true_7 w
  · exact waits_true_8 w
  · exact waits_true_9 w
  · exact waits_true_10 w
  · exact waits_true_11 w
  · exact waits_true_12 w
  · exact waits_true_13 w
  · exact waits_true_14 w
  · exact waits_true_15 w
  · exact waits_true_16 w
  · exact waits_true_17 w
  · exact waits_true_18 w
  · exact waits_true_19 w
  · exact waits_true_20 w
  · exact waits_true_21 w
  · exact waits_true_22 w
  · exact waits_true_23 w
  · exact waits_true_24 w
  · exact waits_true_25 w
  · exact waits_true_26 w
  · exact waits_true_27 w
  · exact waits_true_28 w
  · exact waits_true_29 w
  · exact waits_true_30 w
  · exact waits_true_31 w
  · exact waits_true_32 w
  · exact waits_true_33 w
  · exact waits_true_34 w
  · exact waits_true_35 w
  · exact waits_true_36 w
  · exact waits_true_37 w
  · exact waits_true_38 w
  · exact waits_true_39 w
  · exact waits_true_40 w
  · exact waits_true_41 w
  · exact waits_true_42 w
  · exact waits_true_43 w
  · exact waits_true_44 w
  · exact waits_true_45 w
  · exact waits_true_46 w
  · exact waits_true_47 w
  · exact waits_true_48 w
  · exact waits_true_49 w
  · exact waits_true_50 w
theorem waitsAll (w : World) (n : Int) (b : Bool) (hn0 : -9223372036854775808 ≤ n) (hn1 : n ≤ 9223372036854775807) : Calls Tryz.prog 4 #[.int .i64 n, .bool b] w (fun e w' => e = .returned (.bool true) ∧ Only [] w w') := by
  cases b
  · exact waitsAll_false w n hn0 hn1
  · exact waitsAll_true w n hn0 hn1
end Go.Proofs.YtdfnjcbgakmibaaGreat.ev
