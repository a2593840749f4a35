/-
  == and != of arrays of six bytes. Conditions: none.
-/
import Derived.Test.YtdpmjghdmpaehaaEvS
import Derived.KernelRfl
import Derived.DeepKeys
namespace Go.Proofs.Ytdpmjghdmpaehaa.ev
set_option maxRecDepth 1000000
set_option linter.unusedVariables false
set_option linter.unusedSimpArgs false
theorem eqMac (d : Nat) (a0 a1 a2 a3 a4 a5 : Int) (w : World) : (Op.equalIn (d + 2) 25 (.agg #[.int .u8 a0, .int .u8 a1, .int .u8 a2, .int .u8 a3, .int .u8 a4, .int .u8 a5]) (.agg #[.int .u8 a0, .int .u8 a1, .int .u8 a2, .int .u8 a3, .int .u8 a4, .int .u8 a5])).run Try.prog w = .ok true w := by
  have hu : Try.prog.underlying 25 = some (.array 6 5) := Try.underlying25
  rw [run_equalIn_array w (d + 1) _ _ hu (i := (Try.prog.info? 5).get!) (by kernel_rfl)]
  have hc : Try.prog.cellsOf 5 = 1 := by kernel_rfl
  have hp : ∀ (xs : Array Value) (j : Nat) (v : Value), xs[j]? = some v → (part 5 xs j).run Try.prog w = .ok v w := fun xs j v hv => by
    simp [part, Sem.run_bind, run_isAgg Try.underlying5, TypeDesc.isRow, hv]
  have he : ∀ (n : Int), (Op.equalIn (d + 1) 5 (.int .u8 n) (.int .u8 n)).run Try.prog w = .ok true w := fun n => by
    simp [Op.equalIn, Sem.run_bind, run_underlying Try.underlying5]
  rw [hc]
  simp only [show List.range 6 = [0, 1, 2, 3, 4, 5] from rfl, Op.eqItems, Nat.mul_one, Nat.zero_mul]
  have p0 := hp #[.int .u8 a0, .int .u8 a1, .int .u8 a2, .int .u8 a3, .int .u8 a4, .int .u8 a5] 0 (.int .u8 a0) rfl
  have p1 := hp #[.int .u8 a0, .int .u8 a1, .int .u8 a2, .int .u8 a3, .int .u8 a4, .int .u8 a5] 1 (.int .u8 a1) rfl
  have p2 := hp #[.int .u8 a0, .int .u8 a1, .int .u8 a2, .int .u8 a3, .int .u8 a4, .int .u8 a5] 2 (.int .u8 a2) rfl
  have p3 := hp #[.int .u8 a0, .int .u8 a1, .int .u8 a2, .int .u8 a3, .int .u8 a4, .int .u8 a5] 3 (.int .u8 a3) rfl
  have p4 := hp #[.int .u8 a0, .int .u8 a1, .int .u8 a2, .int .u8 a3, .int .u8 a4, .int .u8 a5] 4 (.int .u8 a4) rfl
  have p5 := hp #[.int .u8 a0, .int .u8 a1, .int .u8 a2, .int .u8 a3, .int .u8 a4, .int .u8 a5] 5 (.int .u8 a5) rfl
  simp only [Sem.run_bind, p0, p1, p2, p3, p4, p5, Result.andThen_ok, he, if_true, Sem.run_pure, Bool.not_true, Bool.false_eq_true, if_false]
theorem eqMACn (a0 a1 a2 a3 a4 a5 b0 b1 b2 b3 b4 b5 : Int) (h0 : a0 = b0) (h1 : a1 = b1) (h2 : a2 = b2) (h3 : a3 = b3) (h4 : a4 = b4) (h5 : a5 = b5) (o1 o2 : Operand) (w : World) :
    (do eqGuard .eql 25 o1 o2 (.agg #[.int .u8 a0, .int .u8 a1, .int .u8 a2, .int .u8 a3, .int .u8 a4, .int .u8 a5]) (.agg #[.int .u8 b0, .int .u8 b1, .int .u8 b2, .int .u8 b3, .int .u8 b4, .int .u8 b5]); Go.binOp .eql 25 (.agg #[.int .u8 a0, .int .u8 a1, .int .u8 a2, .int .u8 a3, .int .u8 a4, .int .u8 a5]) (.agg #[.int .u8 b0, .int .u8 b1, .int .u8 b2, .int .u8 b3, .int .u8 b4, .int .u8 b5]) : Sem Value).run Try.prog w = .ok (.bool true) w := by
  subst h0 h1 h2 h3 h4 h5
  have m := eqMac 9998 a0 a1 a2 a3 a4 a5 w
  go_simp
theorem eqMacD (d : Nat) (a0 a1 a2 a3 a4 a5 b0 b1 b2 b3 b4 b5 : Int) (w : World) : (Op.equalIn (d + 2) 25 (.agg #[.int .u8 a0, .int .u8 a1, .int .u8 a2, .int .u8 a3, .int .u8 a4, .int .u8 a5]) (.agg #[.int .u8 b0, .int .u8 b1, .int .u8 b2, .int .u8 b3, .int .u8 b4, .int .u8 b5])).run Try.prog w = .ok (decide (a0 = b0 ∧ a1 = b1 ∧ a2 = b2 ∧ a3 = b3 ∧ a4 = b4 ∧ a5 = b5)) w := by
  have hu : Try.prog.underlying 25 = some (.array 6 5) := Try.underlying25
  rw [run_equalIn_array w (d + 1) _ _ hu (i := (Try.prog.info? 5).get!) (by kernel_rfl)]
  have hc : Try.prog.cellsOf 5 = 1 := by kernel_rfl
  have hp : ∀ (xs : Array Value) (j : Nat) (v : Value), xs[j]? = some v → (part 5 xs j).run Try.prog w = .ok v w := fun xs j v hv => by
    simp [part, Sem.run_bind, run_isAgg Try.underlying5, TypeDesc.isRow, hv]
  have he : ∀ (n m : Int), (Op.equalIn (d + 1) 5 (.int .u8 n) (.int .u8 m)).run Try.prog w = .ok (n == m) w := fun n m => by
    simp [Op.equalIn, Sem.run_bind, run_underlying Try.underlying5]
  rw [hc]
  simp only [show List.range 6 = [0, 1, 2, 3, 4, 5] from rfl, Op.eqItems, Nat.mul_one, Nat.zero_mul]
  have p0 := hp #[.int .u8 a0, .int .u8 a1, .int .u8 a2, .int .u8 a3, .int .u8 a4, .int .u8 a5] 0 (.int .u8 a0) rfl
  have r0 := hp #[.int .u8 b0, .int .u8 b1, .int .u8 b2, .int .u8 b3, .int .u8 b4, .int .u8 b5] 0 (.int .u8 b0) rfl
  have p1 := hp #[.int .u8 a0, .int .u8 a1, .int .u8 a2, .int .u8 a3, .int .u8 a4, .int .u8 a5] 1 (.int .u8 a1) rfl
  have r1 := hp #[.int .u8 b0, .int .u8 b1, .int .u8 b2, .int .u8 b3, .int .u8 b4, .int .u8 b5] 1 (.int .u8 b1) rfl
  have p2 := hp #[.int .u8 a0, .int .u8 a1, .int .u8 a2, .int .u8 a3, .int .u8 a4, .int .u8 a5] 2 (.int .u8 a2) rfl
  have r2 := hp #[.int .u8 b0, .int .u8 b1, .int .u8 b2, .int .u8 b3, .int .u8 b4, .int .u8 b5] 2 (.int .u8 b2) rfl
  have p3 := hp #[.int .u8 a0, .int .u8 a1, .int .u8 a2, .int .u8 a3, .int .u8 a4, .int .u8 a5] 3 (.int .u8 a3) rfl
  have r3 := hp #[.int .u8 b0, .int .u8 b1, .int .u8 b2, .int .u8 b3, .int .u8 b4, .int .u8 b5] 3 (.int .u8 b3) rfl
  have p4 := hp #[.int .u8 a0, .int .u8 a1, .int .u8 a2, .int .u8 a3, .int .u8 a4, .int .u8 a5] 4 (.int .u8 a4) rfl
  have r4 := hp #[.int .u8 b0, .int .u8 b1, .int .u8 b2, .int .u8 b3, .int .u8 b4, .int .u8 b5] 4 (.int .u8 b4) rfl
  have p5 := hp #[.int .u8 a0, .int .u8 a1, .int .u8 a2, .int .u8 a3, .int .u8 a4, .int .u8 a5] 5 (.int .u8 a5) rfl
  have r5 := hp #[.int .u8 b0, .int .u8 b1, .int .u8 b2, .int .u8 b3, .int .u8 b4, .int .u8 b5] 5 (.int .u8 b5) rfl
  by_cases h0 : a0 = b0
  rotate_left
  · have e0 : (a0 == b0) = false := by simp [h0]
    have hd : decide (a0 = b0 ∧ a1 = b1 ∧ a2 = b2 ∧ a3 = b3 ∧ a4 = b4 ∧ a5 = b5) = false := by simp [h0]
    rw [hd]
    simp only [Sem.run_bind, p0, p1, p2, p3, p4, p5, r0, r1, r2, r3, r4, r5, Result.andThen_ok, he, e0, if_true, if_false, Bool.not_true, Bool.not_false, Bool.false_eq_true, Sem.run_pure]
  by_cases h1 : a1 = b1
  rotate_left
  · have e1 : (a1 == b1) = false := by simp [h1]
    have e0 : (a0 == b0) = true := by simp [h0]
    have hd : decide (a0 = b0 ∧ a1 = b1 ∧ a2 = b2 ∧ a3 = b3 ∧ a4 = b4 ∧ a5 = b5) = false := by simp [h1]
    rw [hd]
    simp only [Sem.run_bind, p0, p1, p2, p3, p4, p5, r0, r1, r2, r3, r4, r5, Result.andThen_ok, he, e0, e1, if_true, if_false, Bool.not_true, Bool.not_false, Bool.false_eq_true, Sem.run_pure]
  by_cases h2 : a2 = b2
  rotate_left
  · have e2 : (a2 == b2) = false := by simp [h2]
    have e0 : (a0 == b0) = true := by simp [h0]
    have e1 : (a1 == b1) = true := by simp [h1]
    have hd : decide (a0 = b0 ∧ a1 = b1 ∧ a2 = b2 ∧ a3 = b3 ∧ a4 = b4 ∧ a5 = b5) = false := by simp [h2]
    rw [hd]
    simp only [Sem.run_bind, p0, p1, p2, p3, p4, p5, r0, r1, r2, r3, r4, r5, Result.andThen_ok, he, e0, e1, e2, if_true, if_false, Bool.not_true, Bool.not_false, Bool.false_eq_true, Sem.run_pure]
  by_cases h3 : a3 = b3
  rotate_left
  · have e3 : (a3 == b3) = false := by simp [h3]
    have e0 : (a0 == b0) = true := by simp [h0]
    have e1 : (a1 == b1) = true := by simp [h1]
    have e2 : (a2 == b2) = true := by simp [h2]
    have hd : decide (a0 = b0 ∧ a1 = b1 ∧ a2 = b2 ∧ a3 = b3 ∧ a4 = b4 ∧ a5 = b5) = false := by simp [h3]
    rw [hd]
    simp only [Sem.run_bind, p0, p1, p2, p3, p4, p5, r0, r1, r2, r3, r4, r5, Result.andThen_ok, he, e0, e1, e2, e3, if_true, if_false, Bool.not_true, Bool.not_false, Bool.false_eq_true, Sem.run_pure]
  by_cases h4 : a4 = b4
  rotate_left
  · have e4 : (a4 == b4) = false := by simp [h4]
    have e0 : (a0 == b0) = true := by simp [h0]
    have e1 : (a1 == b1) = true := by simp [h1]
    have e2 : (a2 == b2) = true := by simp [h2]
    have e3 : (a3 == b3) = true := by simp [h3]
    have hd : decide (a0 = b0 ∧ a1 = b1 ∧ a2 = b2 ∧ a3 = b3 ∧ a4 = b4 ∧ a5 = b5) = false := by simp [h4]
    rw [hd]
    simp only [Sem.run_bind, p0, p1, p2, p3, p4, p5, r0, r1, r2, r3, r4, r5, Result.andThen_ok, he, e0, e1, e2, e3, e4, if_true, if_false, Bool.not_true, Bool.not_false, Bool.false_eq_true, Sem.run_pure]
  by_cases h5 : a5 = b5
  rotate_left
  · have e5 : (a5 == b5) = false := by simp [h5]
    have e0 : (a0 == b0) = true := by simp [h0]
    have e1 : (a1 == b1) = true := by simp [h1]
    have e2 : (a2 == b2) = true := by simp [h2]
    have e3 : (a3 == b3) = true := by simp [h3]
    have e4 : (a4 == b4) = true := by simp [h4]
    have hd : decide (a0 = b0 ∧ a1 = b1 ∧ a2 = b2 ∧ a3 = b3 ∧ a4 = b4 ∧ a5 = b5) = false := by simp [h5]
    rw [hd]
    simp only [Sem.run_bind, p0, p1, p2, p3, p4, p5, r0, r1, r2, r3, r4, r5, Result.andThen_ok, he, e0, e1, e2, e3, e4, e5, if_true, if_false, Bool.not_true, Bool.not_false, Bool.false_eq_true, Sem.run_pure]
  have e0 : (a0 == b0) = true := by simp [h0]
  have e1 : (a1 == b1) = true := by simp [h1]
  have e2 : (a2 == b2) = true := by simp [h2]
  have e3 : (a3 == b3) = true := by simp [h3]
  have e4 : (a4 == b4) = true := by simp [h4]
  have e5 : (a5 == b5) = true := by simp [h5]
  have hd : decide (a0 = b0 ∧ a1 = b1 ∧ a2 = b2 ∧ a3 = b3 ∧ a4 = b4 ∧ a5 = b5) = true := by simp [h0, h1, h2, h3, h4, h5]
  rw [hd]
  simp only [Sem.run_bind, p0, p1, p2, p3, p4, p5, r0, r1, r2, r3, r4, r5, Result.andThen_ok, he, e0, e1, e2, e3, e4, e5, if_true, if_false, Bool.not_true, Bool.not_false, Bool.false_eq_true, Sem.run_pure]
theorem eqMACd (a0 a1 a2 a3 a4 a5 b0 b1 b2 b3 b4 b5 : Int) (r : Bool) (hr : decide (a0 = b0 ∧ a1 = b1 ∧ a2 = b2 ∧ a3 = b3 ∧ a4 = b4 ∧ a5 = b5) = r) (o1 o2 : Operand) (w : World) :
    (do eqGuard .eql 25 o1 o2 (.agg #[.int .u8 a0, .int .u8 a1, .int .u8 a2, .int .u8 a3, .int .u8 a4, .int .u8 a5]) (.agg #[.int .u8 b0, .int .u8 b1, .int .u8 b2, .int .u8 b3, .int .u8 b4, .int .u8 b5]); Go.binOp .eql 25 (.agg #[.int .u8 a0, .int .u8 a1, .int .u8 a2, .int .u8 a3, .int .u8 a4, .int .u8 a5]) (.agg #[.int .u8 b0, .int .u8 b1, .int .u8 b2, .int .u8 b3, .int .u8 b4, .int .u8 b5]) : Sem Value).run Try.prog w = .ok (.bool r) w := by
  have m := eqMacD 9998 a0 a1 a2 a3 a4 a5 b0 b1 b2 b3 b4 b5 w
  rw [hr] at m
  go_simp
theorem neMACt (a0 a1 a2 a3 a4 a5 b0 b1 b2 b3 b4 b5 : Int) (hr : decide (a0 = b0 ∧ a1 = b1 ∧ a2 = b2 ∧ a3 = b3 ∧ a4 = b4 ∧ a5 = b5) = true) (o1 o2 : Operand) (w : World) :
    (do eqGuard .neq 25 o1 o2 (.agg #[.int .u8 a0, .int .u8 a1, .int .u8 a2, .int .u8 a3, .int .u8 a4, .int .u8 a5]) (.agg #[.int .u8 b0, .int .u8 b1, .int .u8 b2, .int .u8 b3, .int .u8 b4, .int .u8 b5]); Go.binOp .neq 25 (.agg #[.int .u8 a0, .int .u8 a1, .int .u8 a2, .int .u8 a3, .int .u8 a4, .int .u8 a5]) (.agg #[.int .u8 b0, .int .u8 b1, .int .u8 b2, .int .u8 b3, .int .u8 b4, .int .u8 b5]) : Sem Value).run Try.prog w = .ok (.bool false) w := by
  have m := eqMacD 9998 a0 a1 a2 a3 a4 a5 b0 b1 b2 b3 b4 b5 w
  rw [hr] at m
  go_simp
theorem neMACf (a0 a1 a2 a3 a4 a5 b0 b1 b2 b3 b4 b5 : Int) (hr : decide (a0 = b0 ∧ a1 = b1 ∧ a2 = b2 ∧ a3 = b3 ∧ a4 = b4 ∧ a5 = b5) = false) (o1 o2 : Operand) (w : World) :
    (do eqGuard .neq 25 o1 o2 (.agg #[.int .u8 a0, .int .u8 a1, .int .u8 a2, .int .u8 a3, .int .u8 a4, .int .u8 a5]) (.agg #[.int .u8 b0, .int .u8 b1, .int .u8 b2, .int .u8 b3, .int .u8 b4, .int .u8 b5]); Go.binOp .neq 25 (.agg #[.int .u8 a0, .int .u8 a1, .int .u8 a2, .int .u8 a3, .int .u8 a4, .int .u8 a5]) (.agg #[.int .u8 b0, .int .u8 b1, .int .u8 b2, .int .u8 b3, .int .u8 b4, .int .u8 b5]) : Sem Value).run Try.prog w = .ok (.bool true) w := by
  have m := eqMacD 9998 a0 a1 a2 a3 a4 a5 b0 b1 b2 b3 b4 b5 w
  rw [hr] at m
  go_simp
end Go.Proofs.Ytdpmjghdmpaehaa.ev
