/-
  Chapter 17: a nil connection. Conditions: none.
-/
import Derived.Test.YtdeimmmblmipdaaGreatEvP17
import Derived.Test.YtdeimmmblmipdaaGreatEvBd
namespace Go.Proofs.YtdeimmmblmipdaaGreat.ev
set_option maxRecDepth 1000000
set_option linter.unusedVariables false
set_option linter.unusedSimpArgs false
theorem non0 (w : World) (a ap b bp sq ak fl wn ms sc q : Int) (A : Option Addr) (n cp : Nat) (B : Option Addr) (m cq : Nat) (c0 : ¬ ((m : Int) > 20000)) (c1 : ¬ ((n : Int) > 20000)) : Calls Tryz.prog 3 #[.agg #[.int .u32 a, .int .i64 ap, .int .u32 b, .int .i64 bp, .int .u32 sq, .int .u32 ak, .int .i64 fl, .int .i64 wn, .int .i64 ms, .int .i64 sc, .slice A n cp], .slice B m cq, .int .i64 q] w (fun e w' => e = .returned (.bool true) ∧ Only [] w w') := by
  letI : Env := env [.int .u32 a, .int .i64 ap, .int .u32 b, .int .i64 bp, .int .u32 sq, .int .u32 ak, .int .i64 fl, .int .i64 wn, .int .i64 ms, .int .i64 sc, (.slice A n cp), (.slice B m cq), .int .i64 q, .int .i64 (m : Int), .int .i64 (n : Int)]
  refine lawS [.int .u32 a, .int .i64 ap, .int .u32 b, .int .i64 bp, .int .u32 sq, .int .u32 ak, .int .i64 fl, .int .i64 wn, .int .i64 ms, .int .i64 sc, (.slice A n cp), (.slice B m cq), .int .i64 q, .int .i64 (m : Int), .int .i64 (n : Int)] [.len false (.chan (some 11)) (.chan (some 13)), .bin .gtr (.chan (some 13)) (.int .i64 20000) (.bool false), .len false (.chan (some 10)) (.chan (some 14)), .bin .gtr (.chan (some 14)) (.int .i64 20000) (.bool false)] (sp := (spKnown 14)) (spKnown_ok knownBody known) ?_ (f := 300) (args := [.agg #[.chan (some 0), .chan (some 1), .chan (some 2), .chan (some 3), .chan (some 4), .chan (some 5), .chan (some 6), .chan (some 7), .chan (some 8), .chan (some 9), .chan (some 10)], .chan (some 11), .chan (some 12)]) (args' := [.agg #[.int .u32 a, .int .i64 ap, .int .u32 b, .int .i64 bp, .int .u32 sq, .int .u32 ak, .int .i64 fl, .int .i64 wn, .int .i64 ms, .int .i64 sc, .slice A n cp], .slice B m cq, .int .i64 q]) (by kernel_rfl) ?_ w
  · intro e he
    simp only [List.mem_cons, List.not_mem_nil, or_false] at he
    rcases he with rfl | rfl | rfl | rfl
    · exact entLen (i := 11) (j := 13) rfl rfl
    · exact entCmp (k := .i64) (a := (m : Int)) (b := 20000) rfl rfl (by show some (decide (((m : Int) : Int) > 20000)) = some false; rw [decide_eq_false (by first | omega | (simp only [sumVal, oct.sumF, oct.F, oct.ws]; omega))])
    · exact entLen (i := 10) (j := 14) rfl rfl
    · exact entCmp (k := .i64) (a := (n : Int)) (b := 20000) rfl rfl (by show some (decide (((n : Int) : Int) > 20000)) = some false; rw [decide_eq_false (by first | omega | (simp only [sumVal, oct.sumF, oct.F, oct.ws]; omega))])
  · exact (PW.cons (PW.agg (PW.cons (.opq 0 rfl (fun b h => by cases h)) (PW.cons (.opq 1 rfl (fun b h => by cases h)) (PW.cons (.opq 2 rfl (fun b h => by cases h)) (PW.cons (.opq 3 rfl (fun b h => by cases h)) (PW.cons (.opq 4 rfl (fun b h => by cases h)) (PW.cons (.opq 5 rfl (fun b h => by cases h)) (PW.cons (.opq 6 rfl (fun b h => by cases h)) (PW.cons (.opq 7 rfl (fun b h => by cases h)) (PW.cons (.opq 8 rfl (fun b h => by cases h)) (PW.cons (.opq 9 rfl (fun b h => by cases h)) (PW.cons (.opq 10 rfl (fun b h => by cases h)) (PW.nil _))))))))))))) (PW.cons (.opq 11 rfl (fun b h => by cases h)) (PW.cons (.opq 12 rfl (fun b h => by cases h)) (PW.nil _))))
theorem non1 (w : World) (a ap b bp sq ak fl wn ms sc q : Int) (A : Option Addr) (n cp : Nat) (B : Option Addr) (m cq : Nat) (c0 : (m : Int) > 20000) : Calls Tryz.prog 3 #[.agg #[.int .u32 a, .int .i64 ap, .int .u32 b, .int .i64 bp, .int .u32 sq, .int .u32 ak, .int .i64 fl, .int .i64 wn, .int .i64 ms, .int .i64 sc, .slice A n cp], .slice B m cq, .int .i64 q] w (fun e w' => e = .returned (.bool true) ∧ Only [] w w') := by
  letI : Env := env [.int .u32 a, .int .i64 ap, .int .u32 b, .int .i64 bp, .int .u32 sq, .int .u32 ak, .int .i64 fl, .int .i64 wn, .int .i64 ms, .int .i64 sc, (.slice A n cp), (.slice B m cq), .int .i64 q, .int .i64 (m : Int)]
  refine lawS [.int .u32 a, .int .i64 ap, .int .u32 b, .int .i64 bp, .int .u32 sq, .int .u32 ak, .int .i64 fl, .int .i64 wn, .int .i64 ms, .int .i64 sc, (.slice A n cp), (.slice B m cq), .int .i64 q, .int .i64 (m : Int)] [.len false (.chan (some 11)) (.chan (some 13)), .bin .gtr (.chan (some 13)) (.int .i64 20000) (.bool true)] (sp := (spKnown 14)) (spKnown_ok knownBody known) ?_ (f := 300) (args := [.agg #[.chan (some 0), .chan (some 1), .chan (some 2), .chan (some 3), .chan (some 4), .chan (some 5), .chan (some 6), .chan (some 7), .chan (some 8), .chan (some 9), .chan (some 10)], .chan (some 11), .chan (some 12)]) (args' := [.agg #[.int .u32 a, .int .i64 ap, .int .u32 b, .int .i64 bp, .int .u32 sq, .int .u32 ak, .int .i64 fl, .int .i64 wn, .int .i64 ms, .int .i64 sc, .slice A n cp], .slice B m cq, .int .i64 q]) (by kernel_rfl) ?_ w
  · intro e he
    simp only [List.mem_cons, List.not_mem_nil, or_false] at he
    rcases he with rfl | rfl
    · exact entLen (i := 11) (j := 13) rfl rfl
    · exact entCmp (k := .i64) (a := (m : Int)) (b := 20000) rfl rfl (by show some (decide (((m : Int) : Int) > 20000)) = some true; rw [decide_eq_true (by first | omega | (simp only [sumVal, oct.sumF, oct.F, oct.ws]; omega))])
  · exact (PW.cons (PW.agg (PW.cons (.opq 0 rfl (fun b h => by cases h)) (PW.cons (.opq 1 rfl (fun b h => by cases h)) (PW.cons (.opq 2 rfl (fun b h => by cases h)) (PW.cons (.opq 3 rfl (fun b h => by cases h)) (PW.cons (.opq 4 rfl (fun b h => by cases h)) (PW.cons (.opq 5 rfl (fun b h => by cases h)) (PW.cons (.opq 6 rfl (fun b h => by cases h)) (PW.cons (.opq 7 rfl (fun b h => by cases h)) (PW.cons (.opq 8 rfl (fun b h => by cases h)) (PW.cons (.opq 9 rfl (fun b h => by cases h)) (PW.cons (.opq 10 rfl (fun b h => by cases h)) (PW.nil _))))))))))))) (PW.cons (.opq 11 rfl (fun b h => by cases h)) (PW.cons (.opq 12 rfl (fun b h => by cases h)) (PW.nil _))))
theorem non2 (w : World) (a ap b bp sq ak fl wn ms sc q : Int) (A : Option Addr) (n cp : Nat) (B : Option Addr) (m cq : Nat) (c0 : ¬ ((m : Int) > 20000)) (c1 : (n : Int) > 20000) : Calls Tryz.prog 3 #[.agg #[.int .u32 a, .int .i64 ap, .int .u32 b, .int .i64 bp, .int .u32 sq, .int .u32 ak, .int .i64 fl, .int .i64 wn, .int .i64 ms, .int .i64 sc, .slice A n cp], .slice B m cq, .int .i64 q] w (fun e w' => e = .returned (.bool true) ∧ Only [] w w') := by
  letI : Env := env [.int .u32 a, .int .i64 ap, .int .u32 b, .int .i64 bp, .int .u32 sq, .int .u32 ak, .int .i64 fl, .int .i64 wn, .int .i64 ms, .int .i64 sc, (.slice A n cp), (.slice B m cq), .int .i64 q, .int .i64 (m : Int), .int .i64 (n : Int)]
  refine lawS [.int .u32 a, .int .i64 ap, .int .u32 b, .int .i64 bp, .int .u32 sq, .int .u32 ak, .int .i64 fl, .int .i64 wn, .int .i64 ms, .int .i64 sc, (.slice A n cp), (.slice B m cq), .int .i64 q, .int .i64 (m : Int), .int .i64 (n : Int)] [.len false (.chan (some 11)) (.chan (some 13)), .bin .gtr (.chan (some 13)) (.int .i64 20000) (.bool false), .len false (.chan (some 10)) (.chan (some 14)), .bin .gtr (.chan (some 14)) (.int .i64 20000) (.bool true)] (sp := (spKnown 14)) (spKnown_ok knownBody known) ?_ (f := 300) (args := [.agg #[.chan (some 0), .chan (some 1), .chan (some 2), .chan (some 3), .chan (some 4), .chan (some 5), .chan (some 6), .chan (some 7), .chan (some 8), .chan (some 9), .chan (some 10)], .chan (some 11), .chan (some 12)]) (args' := [.agg #[.int .u32 a, .int .i64 ap, .int .u32 b, .int .i64 bp, .int .u32 sq, .int .u32 ak, .int .i64 fl, .int .i64 wn, .int .i64 ms, .int .i64 sc, .slice A n cp], .slice B m cq, .int .i64 q]) (by kernel_rfl) ?_ w
  · intro e he
    simp only [List.mem_cons, List.not_mem_nil, or_false] at he
    rcases he with rfl | rfl | rfl | rfl
    · exact entLen (i := 11) (j := 13) rfl rfl
    · exact entCmp (k := .i64) (a := (m : Int)) (b := 20000) rfl rfl (by show some (decide (((m : Int) : Int) > 20000)) = some false; rw [decide_eq_false (by first | omega | (simp only [sumVal, oct.sumF, oct.F, oct.ws]; omega))])
    · exact entLen (i := 10) (j := 14) rfl rfl
    · exact entCmp (k := .i64) (a := (n : Int)) (b := 20000) rfl rfl (by show some (decide (((n : Int) : Int) > 20000)) = some true; rw [decide_eq_true (by first | omega | (simp only [sumVal, oct.sumF, oct.F, oct.ws]; omega))])
  · exact (PW.cons (PW.agg (PW.cons (.opq 0 rfl (fun b h => by cases h)) (PW.cons (.opq 1 rfl (fun b h => by cases h)) (PW.cons (.opq 2 rfl (fun b h => by cases h)) (PW.cons (.opq 3 rfl (fun b h => by cases h)) (PW.cons (.opq 4 rfl (fun b h => by cases h)) (PW.cons (.opq 5 rfl (fun b h => by cases h)) (PW.cons (.opq 6 rfl (fun b h => by cases h)) (PW.cons (.opq 7 rfl (fun b h => by cases h)) (PW.cons (.opq 8 rfl (fun b h => by cases h)) (PW.cons (.opq 9 rfl (fun b h => by cases h)) (PW.cons (.opq 10 rfl (fun b h => by cases h)) (PW.nil _))))))))))))) (PW.cons (.opq 11 rfl (fun b h => by cases h)) (PW.cons (.opq 12 rfl (fun b h => by cases h)) (PW.nil _))))
theorem nonAll (w : World) (a ap b bp sq ak fl wn ms sc q : Int) (A : Option Addr) (n cp : Nat) (B : Option Addr) (m cq : Nat) : Calls Tryz.prog 3 #[.agg #[.int .u32 a, .int .i64 ap, .int .u32 b, .int .i64 bp, .int .u32 sq, .int .u32 ak, .int .i64 fl, .int .i64 wn, .int .i64 ms, .int .i64 sc, .slice A n cp], .slice B m cq, .int .i64 q] w (fun e w' => e = .returned (.bool true) ∧ Only [] w w') := by
  by_cases h1 : (m : Int) > 20000
  ·
    exact non1 w a ap b bp sq ak fl wn ms sc q A n cp B m cq h1
  ·
    by_cases h2 : (n : Int) > 20000
    ·
      exact non2 w a ap b bp sq ak fl wn ms sc q A n cp B m cq h1 h2
    ·
      exact non0 w a ap b bp sq ak fl wn ms sc q A n cp B m cq h1 h2
end Go.Proofs.YtdeimmmblmipdaaGreat.ev
