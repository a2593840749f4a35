/-
  Leases, by the small memory's runs over numbers that are not looked into. Conditions: those typed.
-/
import Derived.Test.YtdpmjghdmpaehaaEvS
namespace Go.Proofs.Ytdpmjghdmpaehaa.ev
set_option linter.unusedVariables false
set_option maxRecDepth 1000000
theorem freed1 (w : World) (a : Int) (h : a ≠ 0) : Calls Try.prog 9 #[.int .u32 a] w (fun e w' => e = .returned (.bool true) ∧ Only [] w w') := by
  letI : Env := env [.int .u32 a]
  refine lawS [.int .u32 a] [.bin .eql (.chan (some 0)) (.int .u32 0) (.bool false), .bin .eql (.chan (some 0)) (.chan (some 0)) (.bool true)] ?_ (f := 300) (args := [.chan (some 0)]) (args' := [.int .u32 a]) (by kernel_rfl) ?_ w
  · intro e he
    simp only [List.mem_cons, List.not_mem_nil, or_false] at he
    rcases he with rfl | rfl
    · exact entCmp (k := .u32) (a := a) (b := 0) rfl rfl (by show some ((a : Int) == 0) = some false; rw [beq_eq_false_iff_ne.2 (by omega)])
    · exact entCmp (k := .u32) (a := a) (b := a) rfl rfl (by show some ((a : Int) == a) = some true; rw [beq_iff_eq.2 (by omega)])
  · exact (PW.cons (.opq 0 rfl (fun b h => by cases h)) (PW.nil _))
theorem leaseFreed (w : World) (a : Int) : Calls Try.prog 9 #[.int .u32 a] w (fun e w' => e = .returned (.bool true) ∧ Only [] w w') := by
  by_cases h : a = 0
  · subst h; exact law (f := 300) (args := [.int .u32 0]) (by kernel_rfl) rfl w
  · exact freed1 w a h
end Go.Proofs.Ytdpmjghdmpaehaa.ev
