/-
  Chapter 5: two answers held against one another. Conditions: none.
-/
import Derived.Test.YtojechkpkjlgkaaEvP5
import Derived.Test.YtojechkpkjlgkaaEvBd
import Derived.WalkKit
import Derived.ChangeKeysEq
namespace Go.Proofs.Ytojechkpkjlgkaa.ev
set_option maxRecDepth 1000000
set_option linter.unusedVariables false
set_option linter.unusedSimpArgs false
theorem eqMAC (m0 m1 m2 m3 m4 m5 n0 n1 n2 n3 n4 n5 : Int) (d : Nat) (w : World) : (Op.equalIn (d + 2) 23 (.agg #[.int .u8 m0, .int .u8 m1, .int .u8 m2, .int .u8 m3, .int .u8 m4, .int .u8 m5]) (.agg #[.int .u8 n0, .int .u8 n1, .int .u8 n2, .int .u8 n3, .int .u8 n4, .int .u8 n5])).run Try.prog w = .ok (m0 == n0 && (m1 == n1 && (m2 == n2 && (m3 == n3 && (m4 == n4 && m5 == n5))))) w := by
  have hu := Try.underlying5
  obtain ⟨i, hi⟩ := info_of_underlying hu
  have hc : Try.prog.cellsOf 5 = 1 := by kernel_rfl
  rw [run_equalIn_array w (d + 1) _ _ Try.underlying23 hi, hc]
  simp only [List.range, List.range.loop, Op.eqItems]
  go_simp
  by_cases h0 : m0 = n0
  rotate_left
  · simp [h0]
  by_cases h1 : m1 = n1
  rotate_left
  · simp [h0, h1]
  by_cases h2 : m2 = n2
  rotate_left
  · simp [h0, h1, h2]
  by_cases h3 : m3 = n3
  rotate_left
  · simp [h0, h1, h2, h3]
  by_cases h4 : m4 = n4
  rotate_left
  · simp [h0, h1, h2, h3, h4]
  by_cases h5 : m5 = n5 <;> simp [h0, h1, h2, h3, h4, h5]
theorem eqTold (k k' a a' f f' : Bool) (m0 m1 m2 m3 m4 m5 n0 n1 n2 n3 n4 n5 : Int) (b : Bool) (h : (k == k' && (m0 == n0 && (m1 == n1 && (m2 == n2 && (m3 == n3 && (m4 == n4 && (m5 == n5 && (a == a' && f == f')))))))) = b) (a1 a2 : Operand) (w : World) :
    (do eqGuard .eql 60 a1 a2 (.agg #[.bool k, .int .u8 m0, .int .u8 m1, .int .u8 m2, .int .u8 m3, .int .u8 m4, .int .u8 m5, .bool a, .bool f]) (.agg #[.bool k', .int .u8 n0, .int .u8 n1, .int .u8 n2, .int .u8 n3, .int .u8 n4, .int .u8 n5, .bool a', .bool f']); Go.binOp .eql 60 (.agg #[.bool k, .int .u8 m0, .int .u8 m1, .int .u8 m2, .int .u8 m3, .int .u8 m4, .int .u8 m5, .bool a, .bool f]) (.agg #[.bool k', .int .u8 n0, .int .u8 n1, .int .u8 n2, .int .u8 n3, .int .u8 n4, .int .u8 n5, .bool a', .bool f']) : Sem Value).run Try.prog w = .ok (.bool b) w := by
  subst h
  go_simp
  rw [show (9999 : Nat) = 9997 + 2 from rfl]
  simp only [eqMAC, Result.andThen_ok]
  by_cases hk : k = k'
  rotate_left
  · simp [hk]
  by_cases hm : (m0 == n0 && (m1 == n1 && (m2 == n2 && (m3 == n3 && (m4 == n4 && m5 == n5))))) = true
  · have hm' := hm
    simp only [Bool.and_eq_true] at hm'
    obtain ⟨e0, e1, e2, e3, e4, e5⟩ := hm'
    simp only [hk, hm, e0, e1, e2, e3, e4, e5]
    by_cases ha : a = a' <;> by_cases hf : f = f' <;> simp [ha, hf]
  · rw [Bool.not_eq_true] at hm
    have hall : (m0 == n0 && (m1 == n1 && (m2 == n2 && (m3 == n3 && (m4 == n4 && (m5 == n5 && (a == a' && f == f'))))))) = ((m0 == n0 && (m1 == n1 && (m2 == n2 && (m3 == n3 && (m4 == n4 && m5 == n5))))) && (a == a' && f == f')) := by simp only [Bool.and_assoc]
    rw [hall, hm]
    simp [hk]
end Go.Proofs.Ytojechkpkjlgkaa.ev
