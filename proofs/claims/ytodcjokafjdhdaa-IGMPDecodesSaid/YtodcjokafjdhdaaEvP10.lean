/-
  Chapter 10: what is known of known(), and of the sums. Conditions: none.
-/
import Derived.Test.YtodcjokafjdhdaaEvU
import Derived.Test.YtodcjokafjdhdaaEvV
import Derived.WalkKit
namespace Go.Proofs.Ytodcjokafjdhdaa.ev
set_option maxRecDepth 1000000
set_option linter.unusedSimpArgs false
theorem known (w : World) : Calls Try.prog 12 #[] w (fun e w' => e = .returned (.bool true) ∧ Only [] w w') :=
  law (f := 300) (args := []) (by kernel_rfl) rfl w
theorem knownBody : ((Try.prog.funcs[12]?).any fun fn => fn.body.isSome) = true := by kernel_rfl
theorem sumsOK : ∀ p ∈ [(14, true), (33, false), (28, true), (49, false)], SumC p.1 p.2 := by
  intro p hp
  simp only [List.mem_cons, List.not_mem_nil, or_false] at hp
  rcases hp with rfl | rfl | rfl | rfl
  · exact ⟨by kernel_rfl, fun w A n c l h hn => oct.sum1 w A n c l h hn⟩
  · exact ⟨by kernel_rfl, fun w A n c l h hn => oct.part w A n c l h hn⟩
  · exact ⟨by kernel_rfl, fun w A n c l h hn => oct.sum2 w A n c l h hn⟩
  · exact ⟨by kernel_rfl, fun w A n c l h hn => oct.rpart w A n c l h hn⟩
theorem eqIGMP (m x g m' x' g' : Int) (b : Bool) (h : (m == m' && (x == x' && g == g')) = b) (a1 a2 : Operand) (w : World) :
    (do eqGuard .eql 25 a1 a2 (.agg #[.int .i64 m, .int .i64 x, .int .u32 g]) (.agg #[.int .i64 m', .int .i64 x', .int .u32 g']); Go.binOp .eql 25 (.agg #[.int .i64 m, .int .i64 x, .int .u32 g]) (.agg #[.int .i64 m', .int .i64 x', .int .u32 g']) : Sem Value).run Try.prog w = .ok (.bool b) w := by
  subst h
  go_simp
  by_cases h1 : m = m' <;> by_cases h2 : x = x' <;> by_cases h3 : g = g' <;> simp [h1, h2, h3]
end Go.Proofs.Ytodcjokafjdhdaa.ev
