/-
  Chapter 22: ResolveRefuses and ResolveOfNothing, put together. Conditions: none.
-/
import Derived.Test.YtjljmohpgjiplaaEvR22a
import Derived.Test.YtjljmohpgjiplaaEvR22b
import Derived.Test.YtjljmohpgjiplaaEvR22c
import Derived.Test.YtjljmohpgjiplaaEvR22d
import Derived.Test.YtjljmohpgjiplaaEvS
namespace Go.Proofs.Ytjljmohpgjiplaa.ev
set_option maxRecDepth 1000000
set_option linter.unusedVariables false
theorem refuses_lo (w : World) (code : Int) (hlo : -9223372036854775808 ≤ code) (hhi : code ≤ 9223372036854775807) (c0 : code < 1) : Calls Try.prog 8 #[.int .i64 code] w (fun e w' => e = .returned (.bool true) ∧ Only [] w w') := by
  letI : Env := env [.int .i64 code]
  refine lawS [.int .i64 code] [.bin .lss (.chan (some 0)) (.int .i64 1) (.bool true)] (sp := (spKnown 9)) (spKnown_ok knownBody known) ?_ (f := 300) (args := [.chan (some 0)]) (args' := [.int .i64 code]) (by kernel_rfl) ?_ w
  · intro e he
    simp only [List.mem_cons, List.not_mem_nil, or_false] at he
    subst he
    · exact entCmp (k := .i64) (a := code) (b := 1) rfl rfl (by show some (decide ((code : Int) < 1)) = some true; rw [decide_eq_true (by first | omega | (simp only [sumVal, oct.sumF, oct.F, oct.ws]; omega))])
  · exact (PW.cons (.opq 0 rfl (fun b h => by cases h)) (PW.nil _))
theorem refuses_hi (w : World) (code : Int) (hlo : -9223372036854775808 ≤ code) (hhi : code ≤ 9223372036854775807) (c0 : ¬ (code < 1)) (c1 : code > 15) : Calls Try.prog 8 #[.int .i64 code] w (fun e w' => e = .returned (.bool true) ∧ Only [] w w') := by
  letI : Env := env [.int .i64 code]
  refine lawS [.int .i64 code] [.bin .lss (.chan (some 0)) (.int .i64 1) (.bool false), .bin .gtr (.chan (some 0)) (.int .i64 15) (.bool true)] (sp := (spKnown 9)) (spKnown_ok knownBody known) ?_ (f := 300) (args := [.chan (some 0)]) (args' := [.int .i64 code]) (by kernel_rfl) ?_ w
  · intro e he
    simp only [List.mem_cons, List.not_mem_nil, or_false] at he
    rcases he with rfl | rfl
    · exact entCmp (k := .i64) (a := code) (b := 1) rfl rfl (by show some (decide ((code : Int) < 1)) = some false; rw [decide_eq_false (by first | omega | (simp only [sumVal, oct.sumF, oct.F, oct.ws]; omega))])
    · exact entCmp (k := .i64) (a := code) (b := 15) rfl rfl (by show some (decide ((code : Int) > 15)) = some true; rw [decide_eq_true (by first | omega | (simp only [sumVal, oct.sumF, oct.F, oct.ws]; omega))])
  · exact (PW.cons (.opq 0 rfl (fun b h => by cases h)) (PW.nil _))
theorem rn_a (w : World) (s : ByteArray) (A : Option Addr) (n cp : Nat) (a b c d now : Int) (c0 : ¬ ((IntKind.i64.wrap ((s.size : Int) + (n : Int))) > 20000)) : Calls Try.prog 6 #[.string s, .agg #[.int .u32 a, .int .i64 b, .int .u32 c, .int .i64 d, .slice A n cp], .int .i64 now] w (fun e w' => e = .returned (.bool true) ∧ Only [] w w') := by
  letI : Env := env [(.string s), .int .u32 a, .int .i64 b, .int .u32 c, .int .i64 d, (.slice A n cp), .int .i64 now, .int .i64 (s.size : Int), .int .i64 (n : Int), .int .i64 (IntKind.i64.wrap ((s.size : Int) + (n : Int)))]
  refine lawS [(.string s), .int .u32 a, .int .i64 b, .int .u32 c, .int .i64 d, (.slice A n cp), .int .i64 now, .int .i64 (s.size : Int), .int .i64 (n : Int), .int .i64 (IntKind.i64.wrap ((s.size : Int) + (n : Int)))] [.len true (.chan (some 0)) (.chan (some 7)), .len false (.chan (some 5)) (.chan (some 8)), .bin .add (.chan (some 7)) (.chan (some 8)) (.chan (some 9)), .bin .gtr (.chan (some 9)) (.int .i64 20000) (.bool false)] (sp := (spKnown 9)) (spKnown_ok knownBody known) ?_ (f := 300) (args := [.chan (some 0), .agg #[.chan (some 1), .chan (some 2), .chan (some 3), .chan (some 4), .chan (some 5)], .chan (some 6)]) (args' := [.string s, .agg #[.int .u32 a, .int .i64 b, .int .u32 c, .int .i64 d, .slice A n cp], .int .i64 now]) (by kernel_rfl) ?_ w
  · intro e he
    simp only [List.mem_cons, List.not_mem_nil, or_false] at he
    rcases he with rfl | rfl | rfl | rfl
    · exact entLenS (i := 0) (j := 7) rfl rfl
    · exact entLen (i := 5) (j := 8) rfl rfl
    · exact entArith (k := .i64) (a := (s.size : Int)) (b := (n : Int)) (c := (IntKind.i64.wrap ((s.size : Int) + (n : Int)))) rfl rfl rfl (rfl)
    · exact entCmp (k := .i64) (a := (IntKind.i64.wrap ((s.size : Int) + (n : Int)))) (b := 20000) rfl rfl (by show some (decide (((IntKind.i64.wrap ((s.size : Int) + (n : Int))) : Int) > 20000)) = some false; rw [decide_eq_false (by first | omega | (simp only [sumVal, oct.sumF, oct.F, oct.ws]; omega))])
  · exact (PW.cons (.opq 0 rfl (fun b h => by cases h)) (PW.cons (PW.agg (PW.cons (.opq 1 rfl (fun b h => by cases h)) (PW.cons (.opq 2 rfl (fun b h => by cases h)) (PW.cons (.opq 3 rfl (fun b h => by cases h)) (PW.cons (.opq 4 rfl (fun b h => by cases h)) (PW.cons (.opq 5 rfl (fun b h => by cases h)) (PW.nil _))))))) (PW.cons (.opq 6 rfl (fun b h => by cases h)) (PW.nil _))))
theorem rn_b (w : World) (s : ByteArray) (A : Option Addr) (n cp : Nat) (a b c d now : Int) (c0 : (IntKind.i64.wrap ((s.size : Int) + (n : Int))) > 20000) : Calls Try.prog 6 #[.string s, .agg #[.int .u32 a, .int .i64 b, .int .u32 c, .int .i64 d, .slice A n cp], .int .i64 now] w (fun e w' => e = .returned (.bool true) ∧ Only [] w w') := by
  letI : Env := env [(.string s), .int .u32 a, .int .i64 b, .int .u32 c, .int .i64 d, (.slice A n cp), .int .i64 now, .int .i64 (s.size : Int), .int .i64 (n : Int), .int .i64 (IntKind.i64.wrap ((s.size : Int) + (n : Int)))]
  refine lawS [(.string s), .int .u32 a, .int .i64 b, .int .u32 c, .int .i64 d, (.slice A n cp), .int .i64 now, .int .i64 (s.size : Int), .int .i64 (n : Int), .int .i64 (IntKind.i64.wrap ((s.size : Int) + (n : Int)))] [.len true (.chan (some 0)) (.chan (some 7)), .len false (.chan (some 5)) (.chan (some 8)), .bin .add (.chan (some 7)) (.chan (some 8)) (.chan (some 9)), .bin .gtr (.chan (some 9)) (.int .i64 20000) (.bool true)] (sp := (spKnown 9)) (spKnown_ok knownBody known) ?_ (f := 300) (args := [.chan (some 0), .agg #[.chan (some 1), .chan (some 2), .chan (some 3), .chan (some 4), .chan (some 5)], .chan (some 6)]) (args' := [.string s, .agg #[.int .u32 a, .int .i64 b, .int .u32 c, .int .i64 d, .slice A n cp], .int .i64 now]) (by kernel_rfl) ?_ w
  · intro e he
    simp only [List.mem_cons, List.not_mem_nil, or_false] at he
    rcases he with rfl | rfl | rfl | rfl
    · exact entLenS (i := 0) (j := 7) rfl rfl
    · exact entLen (i := 5) (j := 8) rfl rfl
    · exact entArith (k := .i64) (a := (s.size : Int)) (b := (n : Int)) (c := (IntKind.i64.wrap ((s.size : Int) + (n : Int)))) rfl rfl rfl (rfl)
    · exact entCmp (k := .i64) (a := (IntKind.i64.wrap ((s.size : Int) + (n : Int)))) (b := 20000) rfl rfl (by show some (decide (((IntKind.i64.wrap ((s.size : Int) + (n : Int))) : Int) > 20000)) = some true; rw [decide_eq_true (by first | omega | (simp only [sumVal, oct.sumF, oct.F, oct.ws]; omega))])
  · exact (PW.cons (.opq 0 rfl (fun b h => by cases h)) (PW.cons (PW.agg (PW.cons (.opq 1 rfl (fun b h => by cases h)) (PW.cons (.opq 2 rfl (fun b h => by cases h)) (PW.cons (.opq 3 rfl (fun b h => by cases h)) (PW.cons (.opq 4 rfl (fun b h => by cases h)) (PW.cons (.opq 5 rfl (fun b h => by cases h)) (PW.nil _))))))) (PW.cons (.opq 6 rfl (fun b h => by cases h)) (PW.nil _))))
theorem resolveRefuses (w : World) (code : Int) (hlo : -9223372036854775808 ≤ code) (hhi : code ≤ 9223372036854775807) : Calls Try.prog 8 #[.int .i64 code] w (fun e w' => e = .returned (.bool true) ∧ Only [] w w') := by
  by_cases c0 : code < 1
  · exact refuses_lo w code hlo hhi c0
  by_cases c1 : code > 15
  · exact refuses_hi w code hlo hhi c0 c1
  have h : code = 1 ∨ code = 2 ∨ code = 3 ∨ code = 4 ∨ code = 5 ∨ code = 6 ∨ code = 7 ∨ code = 8 ∨ code = 9 ∨ code = 10 ∨ code = 11 ∨ code = 12 ∨ code = 13 ∨ code = 14 ∨ code = 15 := by omega
  rcases h with rfl | rfl | rfl | rfl | rfl | rfl | rfl | rfl | rfl | rfl | rfl | rfl | rfl | rfl | rfl
  · exact refuses1 w
  · exact refuses2 w
  · exact refuses3 w
  · exact refuses4 w
  · exact refuses5 w
  · exact refuses6 w
  · exact refuses7 w
  · exact refuses8 w
  · exact refuses9 w
  · exact refuses10 w
  · exact refuses11 w
  · exact refuses12 w
  · exact refuses13 w
  · exact refuses14 w
  · exact refuses15 w
theorem resolveOfNothing (w : World) (s : ByteArray) (A : Option Addr) (n cp : Nat) (a b c d now : Int) : Calls Try.prog 6 #[.string s, .agg #[.int .u32 a, .int .i64 b, .int .u32 c, .int .i64 d, .slice A n cp], .int .i64 now] w (fun e w' => e = .returned (.bool true) ∧ Only [] w w') := by
  by_cases c0 : (IntKind.i64.wrap ((s.size : Int) + (n : Int))) > 20000
  · exact rn_b w s A n cp a b c d now c0
  · exact rn_a w s A n cp a b c d now c0
end Go.Proofs.Ytjljmohpgjiplaa.ev
