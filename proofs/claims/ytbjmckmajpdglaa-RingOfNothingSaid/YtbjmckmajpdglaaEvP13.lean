/-
  A Ring and Pieces that are not there, by the small memory's runs over what is not looked into. Conditions: those typed.
-/
import Derived.Test.YtbjmckmajpdglaaEvS
namespace Go.Proofs.Ytbjmckmajpdglaa.ev
set_option linter.unusedVariables false
set_option maxRecDepth 1000000
theorem ring1 (w : World) (A : Option Addr) (n c : Nat) (b : Int) (h : n ≤ 6000) (hb : 0 ≤ b) : Calls Try.prog 7 #[.slice A n c, .int .i64 b] w (fun e w' => e = .returned (.bool true) ∧ Only [] w w') := by
  letI : Env := env [(.slice A n c), .int .i64 b, .int .i64 (n : Int)]
  refine lawS [(.slice A n c), .int .i64 b, .int .i64 (n : Int)] [.len false (.chan (some 0)) (.chan (some 2)), .bin .gtr (.chan (some 2)) (.int .i64 6000) (.bool false), .mm false (.chan (some 2)) (.int .i64 0) (.int .i64 0), .mm false (.chan (some 1)) (.int .i64 0) (.int .i64 0)] ?_ (f := 300) (args := [.chan (some 0), .chan (some 1)]) (args' := [.slice A n c, .int .i64 b]) (by kernel_rfl) ?_ w
  · intro e he
    simp only [List.mem_cons, List.not_mem_nil, or_false] at he
    rcases he with rfl | rfl | rfl | rfl
    · exact entLen (i := 0) (j := 2) rfl rfl
    · exact entCmp (k := .i64) (a := (n : Int)) (b := 6000) rfl rfl (by show some (decide (((n : Int) : Int) > 6000)) = some false; rw [decide_eq_false (by omega)])
    · exact entMmI (k := .i64) (a := (n : Int)) (b := 0) (c := 0) rfl rfl (by first | (simp; done) | (simp; omega) | (split <;> omega))
    · exact entMmI (k := .i64) (a := b) (b := 0) (c := 0) rfl rfl (by first | (simp; done) | (simp; omega) | (split <;> omega))
  · exact (PW.cons (.opq 0 rfl (fun b h => by cases h)) (PW.cons (.opq 1 rfl (fun b h => by cases h)) (PW.nil _)))
theorem ring3 (w : World) (A : Option Addr) (n c : Nat) (b : Int) (h : n ≤ 6000) (hb : b < 0) : Calls Try.prog 7 #[.slice A n c, .int .i64 b] w (fun e w' => e = .returned (.bool true) ∧ Only [] w w') := by
  letI : Env := env [(.slice A n c), .int .i64 b, .int .i64 (n : Int), .int .i64 b]
  refine lawS [(.slice A n c), .int .i64 b, .int .i64 (n : Int), .int .i64 b] [.len false (.chan (some 0)) (.chan (some 2)), .bin .gtr (.chan (some 2)) (.int .i64 6000) (.bool false), .mm false (.chan (some 2)) (.int .i64 0) (.int .i64 0), .mm false (.chan (some 1)) (.int .i64 0) (.chan (some 3)), .bin .lss (.chan (some 3)) (.int .i64 1) (.bool true)] ?_ (f := 300) (args := [.chan (some 0), .chan (some 1)]) (args' := [.slice A n c, .int .i64 b]) (by kernel_rfl) ?_ w
  · intro e he
    simp only [List.mem_cons, List.not_mem_nil, or_false] at he
    rcases he with rfl | rfl | rfl | rfl | rfl
    · exact entLen (i := 0) (j := 2) rfl rfl
    · exact entCmp (k := .i64) (a := (n : Int)) (b := 6000) rfl rfl (by show some (decide (((n : Int) : Int) > 6000)) = some false; rw [decide_eq_false (by omega)])
    · exact entMmI (k := .i64) (a := (n : Int)) (b := 0) (c := 0) rfl rfl (by first | (simp; done) | (simp; omega) | (split <;> omega))
    · exact entMm (k := .i64) (a := b) (b := 0) (c := b) rfl rfl rfl (by first | (simp; done) | (simp; omega) | (split <;> omega))
    · exact entCmp (k := .i64) (a := b) (b := 1) rfl rfl (by show some (decide ((b : Int) < 1)) = some true; rw [decide_eq_true (by omega)])
  · exact (PW.cons (.opq 0 rfl (fun b h => by cases h)) (PW.cons (.opq 1 rfl (fun b h => by cases h)) (PW.nil _)))
theorem ring2 (w : World) (A : Option Addr) (n c : Nat) (b : Int) (h : 6000 < n) : Calls Try.prog 7 #[.slice A n c, .int .i64 b] w (fun e w' => e = .returned (.bool true) ∧ Only [] w w') := by
  letI : Env := env [(.slice A n c), .int .i64 b, .int .i64 (n : Int)]
  refine lawS [(.slice A n c), .int .i64 b, .int .i64 (n : Int)] [.len false (.chan (some 0)) (.chan (some 2)), .bin .gtr (.chan (some 2)) (.int .i64 6000) (.bool true)] ?_ (f := 300) (args := [.chan (some 0), .chan (some 1)]) (args' := [.slice A n c, .int .i64 b]) (by kernel_rfl) ?_ w
  · intro e he
    simp only [List.mem_cons, List.not_mem_nil, or_false] at he
    rcases he with rfl | rfl
    · exact entLen (i := 0) (j := 2) rfl rfl
    · exact entCmp (k := .i64) (a := (n : Int)) (b := 6000) rfl rfl (by show some (decide (((n : Int) : Int) > 6000)) = some true; rw [decide_eq_true (by omega)])
  · exact (PW.cons (.opq 0 rfl (fun b h => by cases h)) (PW.cons (.opq 1 rfl (fun b h => by cases h)) (PW.nil _)))
theorem ringOfNothing (w : World) (A : Option Addr) (n c : Nat) (b : Int) : Calls Try.prog 7 #[.slice A n c, .int .i64 b] w (fun e w' => e = .returned (.bool true) ∧ Only [] w w') := by
  by_cases h : n ≤ 6000
  · by_cases hb : 0 ≤ b
    · exact ring1 w A n c b h hb
    · exact ring3 w A n c b h (by omega)
  · exact ring2 w A n c b (by omega)
theorem known (w : World) : Calls Try.prog 9 #[] w (fun e w' => e = .returned (.bool true) ∧ Only [] w w') :=
  law (f := 300) (args := []) (by kernel_rfl) rfl w
end Go.Proofs.Ytbjmckmajpdglaa.ev
