/-
  Chapter 17: two that shut at one time. Conditions: none.
-/
import Derived.Test.YtdeimmmblmipdaaGreatEvP17
import Derived.Test.YtdeimmmblmipdaaGreatEvBd
namespace Go.Proofs.YtdeimmmblmipdaaGreat.ev
set_option maxRecDepth 1000000
set_option linter.unusedVariables false
set_option linter.unusedSimpArgs false
theorem both0 (w : World) (t : Int) (ht0 : -9223372036854775808 ≤ t) (ht1 : t ≤ 9223372036854775807) (c0 : t < 1) : Calls Tryz.prog 4 #[.int .i64 t] w (fun e w' => e = .returned (.bool true) ∧ Only [] w w') := by
  letI : Env := env [.int .i64 t]
  refine lawS [.int .i64 t] [.bin .lss (.chan (some 0)) (.int .i64 1) (.bool true)] (sp := (spKnown 14)) (spKnown_ok knownBody known) ?_ (f := 300) (args := [.chan (some 0)]) (args' := [.int .i64 t]) (by kernel_rfl) ?_ w
  · intro e he
    simp only [List.mem_cons, List.not_mem_nil, or_false] at he
    subst he
    · exact entCmp (k := .i64) (a := t) (b := 1) rfl rfl (by show some (decide ((t : Int) < 1)) = some true; rw [decide_eq_true (by first | omega | (simp only [sumVal, oct.sumF, oct.F, oct.ws]; omega))])
  · exact (PW.cons (.opq 0 rfl (fun b h => by cases h)) (PW.nil _))
theorem both1 (w : World) (t : Int) (ht0 : -9223372036854775808 ≤ t) (ht1 : t ≤ 9223372036854775807) (c0 : ¬ (t < 1)) (c1 : t > 1099511626776) : Calls Tryz.prog 4 #[.int .i64 t] w (fun e w' => e = .returned (.bool true) ∧ Only [] w w') := by
  letI : Env := env [.int .i64 t]
  refine lawS [.int .i64 t] [.bin .lss (.chan (some 0)) (.int .i64 1) (.bool false), .bin .gtr (.chan (some 0)) (.int .i64 1099511626776) (.bool true)] (sp := (spKnown 14)) (spKnown_ok knownBody known) ?_ (f := 300) (args := [.chan (some 0)]) (args' := [.int .i64 t]) (by kernel_rfl) ?_ w
  · intro e he
    simp only [List.mem_cons, List.not_mem_nil, or_false] at he
    rcases he with rfl | rfl
    · exact entCmp (k := .i64) (a := t) (b := 1) rfl rfl (by show some (decide ((t : Int) < 1)) = some false; rw [decide_eq_false (by first | omega | (simp only [sumVal, oct.sumF, oct.F, oct.ws]; omega))])
    · exact entCmp (k := .i64) (a := t) (b := 1099511626776) rfl rfl (by show some (decide ((t : Int) > 1099511626776)) = some true; rw [decide_eq_true (by first | omega | (simp only [sumVal, oct.sumF, oct.F, oct.ws]; omega))])
  · exact (PW.cons (.opq 0 rfl (fun b h => by cases h)) (PW.nil _))
theorem both2 (w : World) (t : Int) (ht0 : -9223372036854775808 ≤ t) (ht1 : t ≤ 9223372036854775807) (c0 : ¬ (t < 1)) (c1 : ¬ (t > 1099511626776)) (c2 : (t - t) ≤ 1) : Calls Tryz.prog 4 #[.int .i64 t] w (fun e w' => e = .returned (.bool true) ∧ Only [] w w') := by
  letI : Env := env [.int .i64 t, .int .i64 (t + 10), .int .i64 (t - t), .int .i64 (t + 120)]
  refine lawS [.int .i64 t, .int .i64 (t + 10), .int .i64 (t - t), .int .i64 (t + 120)] [.bin .lss (.chan (some 0)) (.int .i64 1) (.bool false), .bin .gtr (.chan (some 0)) (.int .i64 1099511626776) (.bool false), .bin .gtr (.chan (some 0)) (.int .i64 9223372036854775797) (.bool false), .bin .add (.chan (some 0)) (.int .i64 10) (.chan (some 1)), .bin .sub (.chan (some 0)) (.chan (some 0)) (.chan (some 2)), .mm true (.chan (some 2)) (.int .i64 1) (.int .i64 1), .bin .gtr (.chan (some 0)) (.int .i64 9223372036854775687) (.bool false), .bin .add (.chan (some 0)) (.int .i64 120) (.chan (some 3)), .bin .leq (.chan (some 3)) (.chan (some 3)) (.bool true)] (sp := (spKnown 14)) (spKnown_ok knownBody known) ?_ (f := 300) (args := [.chan (some 0)]) (args' := [.int .i64 t]) (by kernel_rfl) ?_ w
  · intro e he
    simp only [List.mem_cons, List.not_mem_nil, or_false] at he
    rcases he with rfl | rfl | rfl | rfl | rfl | rfl | rfl | rfl | rfl
    · exact entCmp (k := .i64) (a := t) (b := 1) rfl rfl (by show some (decide ((t : Int) < 1)) = some false; rw [decide_eq_false (by first | omega | (simp only [sumVal, oct.sumF, oct.F, oct.ws]; omega))])
    · exact entCmp (k := .i64) (a := t) (b := 1099511626776) rfl rfl (by show some (decide ((t : Int) > 1099511626776)) = some false; rw [decide_eq_false (by first | omega | (simp only [sumVal, oct.sumF, oct.F, oct.ws]; omega))])
    · exact entCmp (k := .i64) (a := t) (b := 9223372036854775797) rfl rfl (by show some (decide ((t : Int) > 9223372036854775797)) = some false; rw [decide_eq_false (by first | omega | (simp only [sumVal, oct.sumF, oct.F, oct.ws]; omega))])
    · exact entArith (k := .i64) (a := t) (b := 10) (c := (t + 10)) rfl rfl rfl (by show some (IntKind.i64.wrap ((t + 10))) = some (t + 10); rw [IntWalk.i64_in _ (by first | omega | (simp only [sumVal, oct.sumF, oct.F, oct.ws]; omega))])
    · exact entArith (k := .i64) (a := t) (b := t) (c := (t - t)) rfl rfl rfl (by show some (IntKind.i64.wrap ((t - t))) = some (t - t); rw [IntWalk.i64_in _ (by first | omega | (simp only [sumVal, oct.sumF, oct.F, oct.ws]; omega))])
    · exact entMmI (k := .i64) (a := (t - t)) (b := 1) (c := 1) rfl rfl (by first | (simp; done) | (simp; omega) | (split <;> omega))
    · exact entCmp (k := .i64) (a := t) (b := 9223372036854775687) rfl rfl (by show some (decide ((t : Int) > 9223372036854775687)) = some false; rw [decide_eq_false (by first | omega | (simp only [sumVal, oct.sumF, oct.F, oct.ws]; omega))])
    · exact entArith (k := .i64) (a := t) (b := 120) (c := (t + 120)) rfl rfl rfl (by show some (IntKind.i64.wrap ((t + 120))) = some (t + 120); rw [IntWalk.i64_in _ (by first | omega | (simp only [sumVal, oct.sumF, oct.F, oct.ws]; omega))])
    · exact entCmp (k := .i64) (a := (t + 120)) (b := (t + 120)) rfl rfl (by show some (decide (((t + 120) : Int) ≤ (t + 120))) = some true; rw [decide_eq_true (by first | omega | (simp only [sumVal, oct.sumF, oct.F, oct.ws]; omega))])
  · exact (PW.cons (.opq 0 rfl (fun b h => by cases h)) (PW.nil _))
theorem bothAll (w : World) (t : Int) (ht0 : -9223372036854775808 ≤ t) (ht1 : t ≤ 9223372036854775807) : Calls Tryz.prog 4 #[.int .i64 t] w (fun e w' => e = .returned (.bool true) ∧ Only [] w w') := by
  by_cases h1 : t < 1
  ·
    exact both0 w t ht0 ht1 h1
  ·
    by_cases h2 : t > 1099511626776
    ·
      exact both1 w t ht0 ht1 h1 h2
    ·
      by_cases h3 : (t - t) ≤ 1
      ·
        exact both2 w t ht0 ht1 h1 h2 h3
      ·
        exfalso; omega
end Go.Proofs.YtdeimmmblmipdaaGreat.ev
