/-
  Every number. Conditions: none.
-/
import Derived.Test.YtjljmohpgjiplaaEvC2Z
import Derived.Test.YtjljmohpgjiplaaEvV
import Derived.Test.YtjljmohpgjiplaaEvBd
namespace Go.Proofs.Ytjljmohpgjiplaa.ev
set_option maxRecDepth 1000000
set_option linter.unusedVariables false
set_option linter.unusedSimpArgs false
theorem chases_lo (w : World) (n : Int) (hn0 : -9223372036854775808 ≤ n) (hn1 : n ≤ 9223372036854775807) (c0 : n < 0) : Calls Try.prog 5 #[.int .i64 n] w (fun e w' => e = .returned (.bool true) ∧ Only [] w w') := by
  letI : Env := env [.int .i64 n]
  refine lawS [.int .i64 n] [.bin .lss (.chan (some 0)) (.int .i64 0) (.bool true)] (sp := (spKnown 9)) (spKnown_ok knownBody known) ?_ (f := 300) (args := [.chan (some 0)]) (args' := [.int .i64 n]) (by kernel_rfl) ?_ w
  · intro e he
    simp only [List.mem_cons, List.not_mem_nil, or_false] at he
    subst he
    · exact entCmp (k := .i64) (a := n) (b := 0) rfl rfl (by show some (decide ((n : Int) < 0)) = some true; rw [decide_eq_true (by first | omega | (simp only [sumVal, oct.sumF, oct.F, oct.ws]; omega))])
  · exact (PW.cons (.opq 0 rfl (fun b h => by cases h)) (PW.nil _))
theorem chases_hi (w : World) (n : Int) (hn0 : -9223372036854775808 ≤ n) (hn1 : n ≤ 9223372036854775807) (c0 : ¬ (n < 0)) (c1 : n > 20) : Calls Try.prog 5 #[.int .i64 n] w (fun e w' => e = .returned (.bool true) ∧ Only [] w w') := by
  letI : Env := env [.int .i64 n]
  refine lawS [.int .i64 n] [.bin .lss (.chan (some 0)) (.int .i64 0) (.bool false), .bin .gtr (.chan (some 0)) (.int .i64 20) (.bool true)] (sp := (spKnown 9)) (spKnown_ok knownBody known) ?_ (f := 300) (args := [.chan (some 0)]) (args' := [.int .i64 n]) (by kernel_rfl) ?_ w
  · intro e he
    simp only [List.mem_cons, List.not_mem_nil, or_false] at he
    rcases he with rfl | rfl
    · exact entCmp (k := .i64) (a := n) (b := 0) rfl rfl (by show some (decide ((n : Int) < 0)) = some false; rw [decide_eq_false (by first | omega | (simp only [sumVal, oct.sumF, oct.F, oct.ws]; omega))])
    · exact entCmp (k := .i64) (a := n) (b := 20) rfl rfl (by show some (decide ((n : Int) > 20)) = some true; rw [decide_eq_true (by first | omega | (simp only [sumVal, oct.sumF, oct.F, oct.ws]; omega))])
  · exact (PW.cons (.opq 0 rfl (fun b h => by cases h)) (PW.nil _))
theorem chasesAll (w : World) (n : Int) (hn0 : -9223372036854775808 ≤ n) (hn1 : n ≤ 9223372036854775807) : Calls Try.prog 5 #[.int .i64 n] w (fun e w' => e = .returned (.bool true) ∧ Only [] w w') := by
  by_cases c0 : n < 0
  · exact chases_lo w n hn0 hn1 c0
  by_cases c1 : n > 20
  · exact chases_hi w n hn0 hn1 c0 c1
  have h : n = 0 ∨ n = 1 ∨ n = 2 ∨ n = 3 ∨ n = 4 ∨ n = 5 ∨ n = 6 ∨ n = 7 ∨ n = 8 ∨ n = 9 ∨ n = 10 ∨ n = 11 ∨ n = 12 ∨ n = 13 ∨ n = 14 ∨ n = 15 ∨ n = 16 ∨ n = 17 ∨ n = 18 ∨ n = 19 ∨ n = 20 := by omega
  rcases h with rfl | rfl | rfl | rfl | rfl | rfl | rfl | rfl | rfl | rfl | rfl | rfl | rfl | rfl | rfl | rfl | rfl | rfl | rfl | rfl | rfl
  · exact chases0 w
  · exact chases1 w
  · exact chases2 w
  · exact chases3 w
  · exact chases4 w
  · exact chases5 w
  · exact chases6 w
  · exact chases7 w
  · exact chases8 w
  · exact chases9 w
  · exact chases10 w
  · exact chases11 w
  · exact chases12 w
  · exact chases13 w
  · exact chases14 w
  · exact chases15 w
  · exact chases16 w
  · exact chases17 w
  · exact chases18 w
  · exact chases19 w
  · exact chases20 w
end Go.Proofs.Ytjljmohpgjiplaa.ev
