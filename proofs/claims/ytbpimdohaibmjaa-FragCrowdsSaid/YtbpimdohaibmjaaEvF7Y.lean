/-
  Every number. Conditions: none.
-/
import Derived.Test.YtbpimdohaibmjaaEvF7Z
import Derived.Test.YtbpimdohaibmjaaEvV
import Derived.Test.YtbpimdohaibmjaaEvBd
namespace Go.Proofs.Ytbpimdohaibmjaa.ev
set_option maxRecDepth 1000000
set_option linter.unusedVariables false
set_option linter.unusedSimpArgs false
theorem crowds_lo (w : World) (n : Int) (hn0 : -9223372036854775808 ≤ n) (hn1 : n ≤ 9223372036854775807) (c0 : n < 0) : Calls Try.prog 3 #[.int .i64 n] w (fun e w' => e = .returned (.bool true) ∧ Only [] w w') := by
  letI : Env := env [.int .i64 n]
  refine lawS [.int .i64 n] [.bin .lss (.chan (some 0)) (.int .i64 0) (.bool true)] (sp := (spKnown 4)) (spKnown_ok knownBody known) ?_ (f := 300) (args := [.chan (some 0)]) (args' := [.int .i64 n]) (by kernel_rfl) ?_ w
  · intro e he
    simp only [List.mem_cons, List.not_mem_nil, or_false] at he
    subst he
    · exact entCmp (k := .i64) (a := n) (b := 0) rfl rfl (by show some (decide ((n : Int) < 0)) = some true; rw [decide_eq_true (by first | omega | (simp only [sumVal, oct.sumF, oct.F, oct.ws]; omega))])
  · exact (PW.cons (.opq 0 rfl (fun b h => by cases h)) (PW.nil _))
theorem crowds_hi (w : World) (n : Int) (hn0 : -9223372036854775808 ≤ n) (hn1 : n ≤ 9223372036854775807) (c0 : ¬ (n < 0)) (c1 : n > 40) : Calls Try.prog 3 #[.int .i64 n] w (fun e w' => e = .returned (.bool true) ∧ Only [] w w') := by
  letI : Env := env [.int .i64 n]
  refine lawS [.int .i64 n] [.bin .lss (.chan (some 0)) (.int .i64 0) (.bool false), .bin .gtr (.chan (some 0)) (.int .i64 40) (.bool true)] (sp := (spKnown 4)) (spKnown_ok knownBody known) ?_ (f := 300) (args := [.chan (some 0)]) (args' := [.int .i64 n]) (by kernel_rfl) ?_ w
  · intro e he
    simp only [List.mem_cons, List.not_mem_nil, or_false] at he
    rcases he with rfl | rfl
    · exact entCmp (k := .i64) (a := n) (b := 0) rfl rfl (by show some (decide ((n : Int) < 0)) = some false; rw [decide_eq_false (by first | omega | (simp only [sumVal, oct.sumF, oct.F, oct.ws]; omega))])
    · exact entCmp (k := .i64) (a := n) (b := 40) rfl rfl (by show some (decide ((n : Int) > 40)) = some true; rw [decide_eq_true (by first | omega | (simp only [sumVal, oct.sumF, oct.F, oct.ws]; omega))])
  · exact (PW.cons (.opq 0 rfl (fun b h => by cases h)) (PW.nil _))
theorem crowdsAll (w : World) (n : Int) (hn0 : -9223372036854775808 ≤ n) (hn1 : n ≤ 9223372036854775807) : Calls Try.prog 3 #[.int .i64 n] w (fun e w' => e = .returned (.bool true) ∧ Only [] w w') := by
  by_cases c0 : n < 0
  · exact crowds_lo w n hn0 hn1 c0
  by_cases c1 : n > 40
  · exact crowds_hi w n hn0 hn1 c0 c1
  have h : n = 0 ∨ n = 1 ∨ n = 2 ∨ n = 3 ∨ n = 4 ∨ n = 5 ∨ n = 6 ∨ n = 7 ∨ n = 8 ∨ n = 9 ∨ n = 10 ∨ n = 11 ∨ n = 12 ∨ n = 13 ∨ n = 14 ∨ n = 15 ∨ n = 16 ∨ n = 17 ∨ n = 18 ∨ n = 19 ∨ n = 20 ∨ n = 21 ∨ n = 22 ∨ n = 23 ∨ n = 24 ∨ n = 25 ∨ n = 26 ∨ n = 27 ∨ n = 28 ∨ n = 29 ∨ n = 30 ∨ n = 31 ∨ n = 32 ∨ n = 33 ∨ n = 34 ∨ n = 35 ∨ n = 36 ∨ n = 37 ∨ n = 38 ∨ n = 39 ∨ n = 40 := by omega
  rcases h with rfl | rfl | rfl | rfl | rfl | rfl | rfl | rfl | rfl | rfl | rfl | rfl | rfl | rfl | rfl | rfl | rfl | rfl | rfl | rfl | rfl | rfl | rfl | rfl | rfl | rfl | rfl | rfl | rfl | rfl | rfl | rfl | rfl | rfl | rfl | rfl | rfl | rfl | rfl | rfl | rfl
  · exact crowds0 w
  · exact crowds1 w
  · exact crowds2 w
  · exact crowds3 w
  · exact crowds4 w
  · exact crowds5 w
  · exact crowds6 w
  · exact crowds7 w
  · exact crowds8 w
  · exact crowds9 w
  · exact crowds10 w
  · exact crowds11 w
  · exact crowds12 w
  · exact crowds13 w
  · exact crowds14 w
  · exact crowds15 w
  · exact crowds16 w
  · exact crowds17 w
  · exact crowds18 w
  · exact crowds19 w
  · exact crowds20 w
  · exact crowds21 w
  · exact crowds22 w
  · exact crowds23 w
  · exact crowds24 w
  · exact crowds25 w
  · exact crowds26 w
  · exact crowds27 w
  · exact crowds28 w
  · exact crowds29 w
  · exact crowds30 w
  · exact crowds31 w
  · exact crowds32 w
  · exact crowds33 w
  · exact crowds34 w
  · exact crowds35 w
  · exact crowds36 w
  · exact crowds37 w
  · exact crowds38 w
  · exact crowds39 w
  · exact crowds40 w
end Go.Proofs.Ytbpimdohaibmjaa.ev
