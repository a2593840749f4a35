/-
  EtherBack, by a run of each path over rows of bytes that are not looked into. Conditions: none.
-/
import Derived.Test.YtiihhngddmboaaaEvRl
import Derived.Test.YtiihhngddmboaaaEvP4
import Derived.Test.YtiihhngddmboaaaHlp4
import Derived.Test.YtiihhngddmboaaaEvV
import Derived.Test.YtiihhngddmboaaaEvBd
import Derived.Test.YtiihhngddmboaaaOrm
import Derived.Test.YtiihhngddmboaaaEvV
import Derived.KernelRfl
import Derived.DeepKeys
namespace Go.Proofs.Ytiihhngddmboaaa.ev
set_option maxRecDepth 1000000
set_option linter.unusedVariables false
set_option linter.unusedSimpArgs false
open Go.ChangeShapes Go.WideShapes Go.ChangeAt Go.RowKit Go.IntWalk Go.Lib
theorem ac [Env] {P : Program} {e : Ent} {l : List Ent} (h : EntOK P e) (k : ∀ x ∈ l, EntOK P x) : ∀ x ∈ e :: l, EntOK P x := allECons h k
theorem helpC : HelpC Try.prog ⟨12, 9, 13, 5⟩ :=
  ⟨hasBody_of (by kernel_rfl), hasBody_of (by kernel_rfl), hasBody_of (by kernel_rfl), fun w A B n m c d x y hx hy hn hm => hlp.same w A B n m c d x y hx hy hn hm, fun w A n c l hl hc hn => hlp.roomy w A n c l hl hc hn, fun w A B n cap d l hx hc hy hn => hlp.stands w A B n cap d l hx hc hy hn⟩
theorem eqMac (d : Nat) (a0 a1 a2 a3 a4 a5 : Int) (w : World) : (Op.equalIn (d + 2) 23 (.agg #[.int .u8 a0, .int .u8 a1, .int .u8 a2, .int .u8 a3, .int .u8 a4, .int .u8 a5]) (.agg #[.int .u8 a0, .int .u8 a1, .int .u8 a2, .int .u8 a3, .int .u8 a4, .int .u8 a5])).run Try.prog w = .ok true w := by
  have hu : Try.prog.underlying 23 = some (.array 6 5) := Try.underlying23
  rw [run_equalIn_array w (d + 1) _ _ hu (i := (Try.prog.info? 5).get!) (by kernel_rfl)]
  have hc : Try.prog.cellsOf 5 = 1 := by kernel_rfl
  have hp : ∀ (xs : Array Value) (j : Nat) (v : Value), xs[j]? = some v → (part 5 xs j).run Try.prog w = .ok v w := fun xs j v hv => by
    simp [part, Sem.run_bind, run_isAgg Try.underlying5, TypeDesc.isRow, hv]
  have he : ∀ (n : Int), (Op.equalIn (d + 1) 5 (.int .u8 n) (.int .u8 n)).run Try.prog w = .ok true w := fun n => by
    simp [Op.equalIn, Sem.run_bind, run_underlying Try.underlying5]
  rw [hc]
  simp only [show List.range 6 = [0, 1, 2, 3, 4, 5] from rfl, Op.eqItems, Nat.mul_one, Nat.zero_mul]
  have p0 := hp #[.int .u8 a0, .int .u8 a1, .int .u8 a2, .int .u8 a3, .int .u8 a4, .int .u8 a5] 0 (.int .u8 a0) rfl
  have p1 := hp #[.int .u8 a0, .int .u8 a1, .int .u8 a2, .int .u8 a3, .int .u8 a4, .int .u8 a5] 1 (.int .u8 a1) rfl
  have p2 := hp #[.int .u8 a0, .int .u8 a1, .int .u8 a2, .int .u8 a3, .int .u8 a4, .int .u8 a5] 2 (.int .u8 a2) rfl
  have p3 := hp #[.int .u8 a0, .int .u8 a1, .int .u8 a2, .int .u8 a3, .int .u8 a4, .int .u8 a5] 3 (.int .u8 a3) rfl
  have p4 := hp #[.int .u8 a0, .int .u8 a1, .int .u8 a2, .int .u8 a3, .int .u8 a4, .int .u8 a5] 4 (.int .u8 a4) rfl
  have p5 := hp #[.int .u8 a0, .int .u8 a1, .int .u8 a2, .int .u8 a3, .int .u8 a4, .int .u8 a5] 5 (.int .u8 a5) rfl
  simp only [Sem.run_bind, p0, p1, p2, p3, p4, p5, Result.andThen_ok, he, if_true, Sem.run_pure, Bool.not_true, Bool.false_eq_true, if_false]
theorem eqMACn (a0 a1 a2 a3 a4 a5 b0 b1 b2 b3 b4 b5 : Int) (h0 : a0 = b0) (h1 : a1 = b1) (h2 : a2 = b2) (h3 : a3 = b3) (h4 : a4 = b4) (h5 : a5 = b5) (o1 o2 : Operand) (w : World) :
    (do eqGuard .eql 23 o1 o2 (.agg #[.int .u8 a0, .int .u8 a1, .int .u8 a2, .int .u8 a3, .int .u8 a4, .int .u8 a5]) (.agg #[.int .u8 b0, .int .u8 b1, .int .u8 b2, .int .u8 b3, .int .u8 b4, .int .u8 b5]); Go.binOp .eql 23 (.agg #[.int .u8 a0, .int .u8 a1, .int .u8 a2, .int .u8 a3, .int .u8 a4, .int .u8 a5]) (.agg #[.int .u8 b0, .int .u8 b1, .int .u8 b2, .int .u8 b3, .int .u8 b4, .int .u8 b5]) : Sem Value).run Try.prog w = .ok (.bool true) w := by
  subst h0 h1 h2 h3 h4 h5
  have m := eqMac 9998 a0 a1 a2 a3 a4 a5 w
  go_simp
theorem eqMacD (d : Nat) (a0 a1 a2 a3 a4 a5 b0 b1 b2 b3 b4 b5 : Int) (w : World) : (Op.equalIn (d + 2) 23 (.agg #[.int .u8 a0, .int .u8 a1, .int .u8 a2, .int .u8 a3, .int .u8 a4, .int .u8 a5]) (.agg #[.int .u8 b0, .int .u8 b1, .int .u8 b2, .int .u8 b3, .int .u8 b4, .int .u8 b5])).run Try.prog w = .ok (decide (a0 = b0 ∧ a1 = b1 ∧ a2 = b2 ∧ a3 = b3 ∧ a4 = b4 ∧ a5 = b5)) w := by
  have hu : Try.prog.underlying 23 = some (.array 6 5) := Try.underlying23
  rw [run_equalIn_array w (d + 1) _ _ hu (i := (Try.prog.info? 5).get!) (by kernel_rfl)]
  have hc : Try.prog.cellsOf 5 = 1 := by kernel_rfl
  have hp : ∀ (xs : Array Value) (j : Nat) (v : Value), xs[j]? = some v → (part 5 xs j).run Try.prog w = .ok v w := fun xs j v hv => by
    simp [part, Sem.run_bind, run_isAgg Try.underlying5, TypeDesc.isRow, hv]
  have he : ∀ (n m : Int), (Op.equalIn (d + 1) 5 (.int .u8 n) (.int .u8 m)).run Try.prog w = .ok (n == m) w := fun n m => by
    simp [Op.equalIn, Sem.run_bind, run_underlying Try.underlying5]
  rw [hc]
  simp only [show List.range 6 = [0, 1, 2, 3, 4, 5] from rfl, Op.eqItems, Nat.mul_one, Nat.zero_mul]
  have p0 := hp #[.int .u8 a0, .int .u8 a1, .int .u8 a2, .int .u8 a3, .int .u8 a4, .int .u8 a5] 0 (.int .u8 a0) rfl
  have r0 := hp #[.int .u8 b0, .int .u8 b1, .int .u8 b2, .int .u8 b3, .int .u8 b4, .int .u8 b5] 0 (.int .u8 b0) rfl
  have p1 := hp #[.int .u8 a0, .int .u8 a1, .int .u8 a2, .int .u8 a3, .int .u8 a4, .int .u8 a5] 1 (.int .u8 a1) rfl
  have r1 := hp #[.int .u8 b0, .int .u8 b1, .int .u8 b2, .int .u8 b3, .int .u8 b4, .int .u8 b5] 1 (.int .u8 b1) rfl
  have p2 := hp #[.int .u8 a0, .int .u8 a1, .int .u8 a2, .int .u8 a3, .int .u8 a4, .int .u8 a5] 2 (.int .u8 a2) rfl
  have r2 := hp #[.int .u8 b0, .int .u8 b1, .int .u8 b2, .int .u8 b3, .int .u8 b4, .int .u8 b5] 2 (.int .u8 b2) rfl
  have p3 := hp #[.int .u8 a0, .int .u8 a1, .int .u8 a2, .int .u8 a3, .int .u8 a4, .int .u8 a5] 3 (.int .u8 a3) rfl
  have r3 := hp #[.int .u8 b0, .int .u8 b1, .int .u8 b2, .int .u8 b3, .int .u8 b4, .int .u8 b5] 3 (.int .u8 b3) rfl
  have p4 := hp #[.int .u8 a0, .int .u8 a1, .int .u8 a2, .int .u8 a3, .int .u8 a4, .int .u8 a5] 4 (.int .u8 a4) rfl
  have r4 := hp #[.int .u8 b0, .int .u8 b1, .int .u8 b2, .int .u8 b3, .int .u8 b4, .int .u8 b5] 4 (.int .u8 b4) rfl
  have p5 := hp #[.int .u8 a0, .int .u8 a1, .int .u8 a2, .int .u8 a3, .int .u8 a4, .int .u8 a5] 5 (.int .u8 a5) rfl
  have r5 := hp #[.int .u8 b0, .int .u8 b1, .int .u8 b2, .int .u8 b3, .int .u8 b4, .int .u8 b5] 5 (.int .u8 b5) rfl
  by_cases h0 : a0 = b0
  rotate_left
  · have e0 : (a0 == b0) = false := by simp [h0]
    have hd : decide (a0 = b0 ∧ a1 = b1 ∧ a2 = b2 ∧ a3 = b3 ∧ a4 = b4 ∧ a5 = b5) = false := by simp [h0]
    rw [hd]
    simp only [Sem.run_bind, p0, p1, p2, p3, p4, p5, r0, r1, r2, r3, r4, r5, Result.andThen_ok, he, e0, if_true, if_false, Bool.not_true, Bool.not_false, Bool.false_eq_true, Sem.run_pure]
  by_cases h1 : a1 = b1
  rotate_left
  · have e1 : (a1 == b1) = false := by simp [h1]
    have e0 : (a0 == b0) = true := by simp [h0]
    have hd : decide (a0 = b0 ∧ a1 = b1 ∧ a2 = b2 ∧ a3 = b3 ∧ a4 = b4 ∧ a5 = b5) = false := by simp [h1]
    rw [hd]
    simp only [Sem.run_bind, p0, p1, p2, p3, p4, p5, r0, r1, r2, r3, r4, r5, Result.andThen_ok, he, e0, e1, if_true, if_false, Bool.not_true, Bool.not_false, Bool.false_eq_true, Sem.run_pure]
  by_cases h2 : a2 = b2
  rotate_left
  · have e2 : (a2 == b2) = false := by simp [h2]
    have e0 : (a0 == b0) = true := by simp [h0]
    have e1 : (a1 == b1) = true := by simp [h1]
    have hd : decide (a0 = b0 ∧ a1 = b1 ∧ a2 = b2 ∧ a3 = b3 ∧ a4 = b4 ∧ a5 = b5) = false := by simp [h2]
    rw [hd]
    simp only [Sem.run_bind, p0, p1, p2, p3, p4, p5, r0, r1, r2, r3, r4, r5, Result.andThen_ok, he, e0, e1, e2, if_true, if_false, Bool.not_true, Bool.not_false, Bool.false_eq_true, Sem.run_pure]
  by_cases h3 : a3 = b3
  rotate_left
  · have e3 : (a3 == b3) = false := by simp [h3]
    have e0 : (a0 == b0) = true := by simp [h0]
    have e1 : (a1 == b1) = true := by simp [h1]
    have e2 : (a2 == b2) = true := by simp [h2]
    have hd : decide (a0 = b0 ∧ a1 = b1 ∧ a2 = b2 ∧ a3 = b3 ∧ a4 = b4 ∧ a5 = b5) = false := by simp [h3]
    rw [hd]
    simp only [Sem.run_bind, p0, p1, p2, p3, p4, p5, r0, r1, r2, r3, r4, r5, Result.andThen_ok, he, e0, e1, e2, e3, if_true, if_false, Bool.not_true, Bool.not_false, Bool.false_eq_true, Sem.run_pure]
  by_cases h4 : a4 = b4
  rotate_left
  · have e4 : (a4 == b4) = false := by simp [h4]
    have e0 : (a0 == b0) = true := by simp [h0]
    have e1 : (a1 == b1) = true := by simp [h1]
    have e2 : (a2 == b2) = true := by simp [h2]
    have e3 : (a3 == b3) = true := by simp [h3]
    have hd : decide (a0 = b0 ∧ a1 = b1 ∧ a2 = b2 ∧ a3 = b3 ∧ a4 = b4 ∧ a5 = b5) = false := by simp [h4]
    rw [hd]
    simp only [Sem.run_bind, p0, p1, p2, p3, p4, p5, r0, r1, r2, r3, r4, r5, Result.andThen_ok, he, e0, e1, e2, e3, e4, if_true, if_false, Bool.not_true, Bool.not_false, Bool.false_eq_true, Sem.run_pure]
  by_cases h5 : a5 = b5
  rotate_left
  · have e5 : (a5 == b5) = false := by simp [h5]
    have e0 : (a0 == b0) = true := by simp [h0]
    have e1 : (a1 == b1) = true := by simp [h1]
    have e2 : (a2 == b2) = true := by simp [h2]
    have e3 : (a3 == b3) = true := by simp [h3]
    have e4 : (a4 == b4) = true := by simp [h4]
    have hd : decide (a0 = b0 ∧ a1 = b1 ∧ a2 = b2 ∧ a3 = b3 ∧ a4 = b4 ∧ a5 = b5) = false := by simp [h5]
    rw [hd]
    simp only [Sem.run_bind, p0, p1, p2, p3, p4, p5, r0, r1, r2, r3, r4, r5, Result.andThen_ok, he, e0, e1, e2, e3, e4, e5, if_true, if_false, Bool.not_true, Bool.not_false, Bool.false_eq_true, Sem.run_pure]
  have e0 : (a0 == b0) = true := by simp [h0]
  have e1 : (a1 == b1) = true := by simp [h1]
  have e2 : (a2 == b2) = true := by simp [h2]
  have e3 : (a3 == b3) = true := by simp [h3]
  have e4 : (a4 == b4) = true := by simp [h4]
  have e5 : (a5 == b5) = true := by simp [h5]
  have hd : decide (a0 = b0 ∧ a1 = b1 ∧ a2 = b2 ∧ a3 = b3 ∧ a4 = b4 ∧ a5 = b5) = true := by simp [h0, h1, h2, h3, h4, h5]
  rw [hd]
  simp only [Sem.run_bind, p0, p1, p2, p3, p4, p5, r0, r1, r2, r3, r4, r5, Result.andThen_ok, he, e0, e1, e2, e3, e4, e5, if_true, if_false, Bool.not_true, Bool.not_false, Bool.false_eq_true, Sem.run_pure]
theorem eqMACd (a0 a1 a2 a3 a4 a5 b0 b1 b2 b3 b4 b5 : Int) (r : Bool) (hr : decide (a0 = b0 ∧ a1 = b1 ∧ a2 = b2 ∧ a3 = b3 ∧ a4 = b4 ∧ a5 = b5) = r) (o1 o2 : Operand) (w : World) :
    (do eqGuard .eql 23 o1 o2 (.agg #[.int .u8 a0, .int .u8 a1, .int .u8 a2, .int .u8 a3, .int .u8 a4, .int .u8 a5]) (.agg #[.int .u8 b0, .int .u8 b1, .int .u8 b2, .int .u8 b3, .int .u8 b4, .int .u8 b5]); Go.binOp .eql 23 (.agg #[.int .u8 a0, .int .u8 a1, .int .u8 a2, .int .u8 a3, .int .u8 a4, .int .u8 a5]) (.agg #[.int .u8 b0, .int .u8 b1, .int .u8 b2, .int .u8 b3, .int .u8 b4, .int .u8 b5]) : Sem Value).run Try.prog w = .ok (.bool r) w := by
  have m := eqMacD 9998 a0 a1 a2 a3 a4 a5 b0 b1 b2 b3 b4 b5 w
  rw [hr] at m
  go_simp
theorem neMACt (a0 a1 a2 a3 a4 a5 b0 b1 b2 b3 b4 b5 : Int) (hr : decide (a0 = b0 ∧ a1 = b1 ∧ a2 = b2 ∧ a3 = b3 ∧ a4 = b4 ∧ a5 = b5) = true) (o1 o2 : Operand) (w : World) :
    (do eqGuard .neq 23 o1 o2 (.agg #[.int .u8 a0, .int .u8 a1, .int .u8 a2, .int .u8 a3, .int .u8 a4, .int .u8 a5]) (.agg #[.int .u8 b0, .int .u8 b1, .int .u8 b2, .int .u8 b3, .int .u8 b4, .int .u8 b5]); Go.binOp .neq 23 (.agg #[.int .u8 a0, .int .u8 a1, .int .u8 a2, .int .u8 a3, .int .u8 a4, .int .u8 a5]) (.agg #[.int .u8 b0, .int .u8 b1, .int .u8 b2, .int .u8 b3, .int .u8 b4, .int .u8 b5]) : Sem Value).run Try.prog w = .ok (.bool false) w := by
  have m := eqMacD 9998 a0 a1 a2 a3 a4 a5 b0 b1 b2 b3 b4 b5 w
  rw [hr] at m
  go_simp
theorem neMACf (a0 a1 a2 a3 a4 a5 b0 b1 b2 b3 b4 b5 : Int) (hr : decide (a0 = b0 ∧ a1 = b1 ∧ a2 = b2 ∧ a3 = b3 ∧ a4 = b4 ∧ a5 = b5) = false) (o1 o2 : Operand) (w : World) :
    (do eqGuard .neq 23 o1 o2 (.agg #[.int .u8 a0, .int .u8 a1, .int .u8 a2, .int .u8 a3, .int .u8 a4, .int .u8 a5]) (.agg #[.int .u8 b0, .int .u8 b1, .int .u8 b2, .int .u8 b3, .int .u8 b4, .int .u8 b5]); Go.binOp .neq 23 (.agg #[.int .u8 a0, .int .u8 a1, .int .u8 a2, .int .u8 a3, .int .u8 a4, .int .u8 a5]) (.agg #[.int .u8 b0, .int .u8 b1, .int .u8 b2, .int .u8 b3, .int .u8 b4, .int .u8 b5]) : Sem Value).run Try.prog w = .ok (.bool true) w := by
  have m := eqMacD 9998 a0 a1 a2 a3 a4 a5 b0 b1 b2 b3 b4 b5 w
  rw [hr] at m
  go_simp
abbrev ebRowV (R : Nat → Int) (hR : ∀ j, 0 ≤ R j ∧ R j ≤ 255) (n0 : Nat) (t0 t1 t2 t3 t4 t5 f0 f1 f2 f3 f4 f5 kd : Int) : Env := envR [.int .i64 (n0 : Int), .int .u8 t0, .int .u8 t1, .int .u8 t2, .int .u8 t3, .int .u8 t4, .int .u8 t5, .int .u8 f0, .int .u8 f1, .int .u8 f2, .int .u8 f3, .int .u8 f4, .int .u8 f5, .int .i64 kd, .int .u64 kd, .int .u64 (kd / 256), .int .u8 (kd / 256), .int .u8 (kd % 256), .int .i64 (46 - (n0 : Int)), .int .i64 ((n0 : Int) + 14), .int .i64 (kd / 256), .int .i64 ((kd / 256) * 256), .int .i64 (kd % 256), .int .i64 (((kd / 256) * 256) + (kd % 256))] R hR
abbrev ebRowB (R : Nat → Int) (n0 : Nat) (t0 t1 t2 t3 t4 t5 f0 f1 f2 f3 f4 f5 kd : Int) : Prop := n0 ≤ 70000 ∧ 46 ≤ n0 ∧ (1536 ≤ kd ∧ kd ≤ 65535) ∧ (0 ≤ t0 ∧ t0 ≤ 255) ∧ (0 ≤ t1 ∧ t1 ≤ 255) ∧ (0 ≤ t2 ∧ t2 ≤ 255) ∧ (0 ≤ t3 ∧ t3 ≤ 255) ∧ (0 ≤ t4 ∧ t4 ≤ 255) ∧ (0 ≤ t5 ∧ t5 ≤ 255) ∧ (0 ≤ f0 ∧ f0 ≤ 255) ∧ (0 ≤ f1 ∧ f1 ≤ 255) ∧ (0 ≤ f2 ∧ f2 ≤ 255) ∧ (0 ≤ f3 ∧ f3 ≤ 255) ∧ (0 ≤ f4 ∧ f4 ≤ 255) ∧ (0 ≤ f5 ∧ f5 ≤ 255) ∧ ((-9223372036854775808) ≤ kd ∧ kd ≤ 9223372036854775807)
def ebRows0 : Ent := .bin .gtr (.chan (some 0)) (.int .i64 2000) (.bool true)
theorem ebRows0_ok (R : Nat → Int) (hR : ∀ j, 0 ≤ R j ∧ R j ≤ 255) (n0 : Nat) (t0 t1 t2 t3 t4 t5 f0 f1 f2 f3 f4 f5 kd : Int) (hb : ebRowB R n0 t0 t1 t2 t3 t4 t5 f0 f1 f2 f3 f4 f5 kd) (hc : (n0 : Int) > 2000) : @EntOK (ebRowV R hR n0 t0 t1 t2 t3 t4 t5 f0 f1 f2 f3 f4 f5 kd) Try.prog ebRows0 := by
  letI : Env := ebRowV R hR n0 t0 t1 t2 t3 t4 t5 f0 f1 f2 f3 f4 f5 kd
  exact entCmp (k := .i64) (a := (n0 : Int)) (b := 2000) rfl rfl (by show some (decide (((n0 : Int) : Int) > 2000)) = some true; rw [decide_eq_true (by first | omega | (simp only [sumVal, oct.sumF, oct.F, oct.ws]; omega))])
def ebRows1 : Ent := .bin .gtr (.chan (some 0)) (.int .i64 2000) (.bool false)
theorem ebRows1_ok (R : Nat → Int) (hR : ∀ j, 0 ≤ R j ∧ R j ≤ 255) (n0 : Nat) (t0 t1 t2 t3 t4 t5 f0 f1 f2 f3 f4 f5 kd : Int) (hb : ebRowB R n0 t0 t1 t2 t3 t4 t5 f0 f1 f2 f3 f4 f5 kd) (hc : ¬ ((n0 : Int) > 2000)) : @EntOK (ebRowV R hR n0 t0 t1 t2 t3 t4 t5 f0 f1 f2 f3 f4 f5 kd) Try.prog ebRows1 := by
  letI : Env := ebRowV R hR n0 t0 t1 t2 t3 t4 t5 f0 f1 f2 f3 f4 f5 kd
  exact entCmp (k := .i64) (a := (n0 : Int)) (b := 2000) rfl rfl (by show some (decide (((n0 : Int) : Int) > 2000)) = some false; rw [decide_eq_false (by first | omega | (simp only [sumVal, oct.sumF, oct.F, oct.ws]; omega))])
def ebRows2 : Ent := .bin .gtr (.chan (some 0)) (.int .i64 1500) (.bool true)
theorem ebRows2_ok (R : Nat → Int) (hR : ∀ j, 0 ≤ R j ∧ R j ≤ 255) (n0 : Nat) (t0 t1 t2 t3 t4 t5 f0 f1 f2 f3 f4 f5 kd : Int) (hb : ebRowB R n0 t0 t1 t2 t3 t4 t5 f0 f1 f2 f3 f4 f5 kd) (hc : (n0 : Int) > 1500) : @EntOK (ebRowV R hR n0 t0 t1 t2 t3 t4 t5 f0 f1 f2 f3 f4 f5 kd) Try.prog ebRows2 := by
  letI : Env := ebRowV R hR n0 t0 t1 t2 t3 t4 t5 f0 f1 f2 f3 f4 f5 kd
  exact entCmp (k := .i64) (a := (n0 : Int)) (b := 1500) rfl rfl (by show some (decide (((n0 : Int) : Int) > 1500)) = some true; rw [decide_eq_true (by first | omega | (simp only [sumVal, oct.sumF, oct.F, oct.ws]; omega))])
def ebRows3 : Ent := .bin .gtr (.chan (some 0)) (.int .i64 1500) (.bool false)
theorem ebRows3_ok (R : Nat → Int) (hR : ∀ j, 0 ≤ R j ∧ R j ≤ 255) (n0 : Nat) (t0 t1 t2 t3 t4 t5 f0 f1 f2 f3 f4 f5 kd : Int) (hb : ebRowB R n0 t0 t1 t2 t3 t4 t5 f0 f1 f2 f3 f4 f5 kd) (hc : ¬ ((n0 : Int) > 1500)) : @EntOK (ebRowV R hR n0 t0 t1 t2 t3 t4 t5 f0 f1 f2 f3 f4 f5 kd) Try.prog ebRows3 := by
  letI : Env := ebRowV R hR n0 t0 t1 t2 t3 t4 t5 f0 f1 f2 f3 f4 f5 kd
  exact entCmp (k := .i64) (a := (n0 : Int)) (b := 1500) rfl rfl (by show some (decide (((n0 : Int) : Int) > 1500)) = some false; rw [decide_eq_false (by first | omega | (simp only [sumVal, oct.sumF, oct.F, oct.ws]; omega))])
def ebRows4 : Ent := .conv .u64 (.chan (some 13)) (.chan (some 14))
theorem ebRows4_ok (R : Nat → Int) (hR : ∀ j, 0 ≤ R j ∧ R j ≤ 255) (n0 : Nat) (t0 t1 t2 t3 t4 t5 f0 f1 f2 f3 f4 f5 kd : Int) (hb : ebRowB R n0 t0 t1 t2 t3 t4 t5 f0 f1 f2 f3 f4 f5 kd) : @EntOK (ebRowV R hR n0 t0 t1 t2 t3 t4 t5 f0 f1 f2 f3 f4 f5 kd) Try.prog ebRows4 := by
  letI : Env := ebRowV R hR n0 t0 t1 t2 t3 t4 t5 f0 f1 f2 f3 f4 f5 kd
  exact entConvV (k := .u64) (l := .i64) (a := kd) (c := kd) rfl rfl (by rw [IntWalk.u64_in _ (by first | omega | (simp only [sumVal, oct.sumF, oct.F, oct.ws]; omega))])
def ebRows5 : Ent := .bin .shr (.chan (some 14)) (.int .u64 8) (.chan (some 15))
theorem ebRows5_ok (R : Nat → Int) (hR : ∀ j, 0 ≤ R j ∧ R j ≤ 255) (n0 : Nat) (t0 t1 t2 t3 t4 t5 f0 f1 f2 f3 f4 f5 kd : Int) (hb : ebRowB R n0 t0 t1 t2 t3 t4 t5 f0 f1 f2 f3 f4 f5 kd) : @EntOK (ebRowV R hR n0 t0 t1 t2 t3 t4 t5 f0 f1 f2 f3 f4 f5 kd) Try.prog ebRows5 := by
  letI : Env := ebRowV R hR n0 t0 t1 t2 t3 t4 t5 f0 f1 f2 f3 f4 f5 kd
  exact entShrV (k := .u64) (l := .u64) (a := kd) (c := (kd / 256)) (s := 8) rfl rfl rfl (by decide) (by exact fdiv_nat _ 256)
def ebRows6 : Ent := .conv .u8 (.chan (some 15)) (.chan (some 16))
theorem ebRows6_ok (R : Nat → Int) (hR : ∀ j, 0 ≤ R j ∧ R j ≤ 255) (n0 : Nat) (t0 t1 t2 t3 t4 t5 f0 f1 f2 f3 f4 f5 kd : Int) (hb : ebRowB R n0 t0 t1 t2 t3 t4 t5 f0 f1 f2 f3 f4 f5 kd) : @EntOK (ebRowV R hR n0 t0 t1 t2 t3 t4 t5 f0 f1 f2 f3 f4 f5 kd) Try.prog ebRows6 := by
  letI : Env := ebRowV R hR n0 t0 t1 t2 t3 t4 t5 f0 f1 f2 f3 f4 f5 kd
  exact entConvV (k := .u8) (l := .u64) (a := (kd / 256)) (c := (kd / 256)) rfl rfl (by rw [IntWalk.u8_in _ (by first | omega | (simp only [sumVal, oct.sumF, oct.F, oct.ws]; omega))])
def ebRows7 : Ent := .conv .u8 (.chan (some 14)) (.chan (some 17))
theorem ebRows7_ok (R : Nat → Int) (hR : ∀ j, 0 ≤ R j ∧ R j ≤ 255) (n0 : Nat) (t0 t1 t2 t3 t4 t5 f0 f1 f2 f3 f4 f5 kd : Int) (hb : ebRowB R n0 t0 t1 t2 t3 t4 t5 f0 f1 f2 f3 f4 f5 kd) : @EntOK (ebRowV R hR n0 t0 t1 t2 t3 t4 t5 f0 f1 f2 f3 f4 f5 kd) Try.prog ebRows7 := by
  letI : Env := ebRowV R hR n0 t0 t1 t2 t3 t4 t5 f0 f1 f2 f3 f4 f5 kd
  exact entConvV (k := .u8) (l := .u64) (a := kd) (c := (kd % 256)) rfl rfl (by rw [IntKind.wrap_u8])
def ebRows8 : Ent := .bin .sub (.int .i64 46) (.chan (some 0)) (.chan (some 18))
theorem ebRows8_ok (R : Nat → Int) (hR : ∀ j, 0 ≤ R j ∧ R j ≤ 255) (n0 : Nat) (t0 t1 t2 t3 t4 t5 f0 f1 f2 f3 f4 f5 kd : Int) (hb : ebRowB R n0 t0 t1 t2 t3 t4 t5 f0 f1 f2 f3 f4 f5 kd) : @EntOK (ebRowV R hR n0 t0 t1 t2 t3 t4 t5 f0 f1 f2 f3 f4 f5 kd) Try.prog ebRows8 := by
  letI : Env := ebRowV R hR n0 t0 t1 t2 t3 t4 t5 f0 f1 f2 f3 f4 f5 kd
  exact entArith (k := .i64) (a := 46) (b := (n0 : Int)) (c := (46 - (n0 : Int))) rfl rfl rfl (by show some (IntKind.i64.wrap ((46 - (n0 : Int)))) = some (46 - (n0 : Int)); rw [IntWalk.i64_in _ (by first | omega | (simp only [sumVal, oct.sumF, oct.F, oct.ws]; omega))])
def ebRows9 : Ent := .slen 0 28 (.chan (some 19))
theorem ebRows9_ok (R : Nat → Int) (hR : ∀ j, 0 ≤ R j ∧ R j ≤ 255) (n0 : Nat) (t0 t1 t2 t3 t4 t5 f0 f1 f2 f3 f4 f5 kd : Int) (hb : ebRowB R n0 t0 t1 t2 t3 t4 t5 f0 f1 f2 f3 f4 f5 kd) : @EntOK (ebRowV R hR n0 t0 t1 t2 t3 t4 t5 f0 f1 f2 f3 f4 f5 kd) Try.prog ebRows9 := by
  letI : Env := ebRowV R hR n0 t0 t1 t2 t3 t4 t5 f0 f1 f2 f3 f4 f5 kd
  exact entSlen (n := n0) (j := 19) (c := ((n0 : Int) + 14)) rfl rfl (by simp; try omega) (by first | exact .inl rfl | (right; omega))
def ebRows10 : Ent := .conv .i64 (.chan (some 16)) (.chan (some 20))
theorem ebRows10_ok (R : Nat → Int) (hR : ∀ j, 0 ≤ R j ∧ R j ≤ 255) (n0 : Nat) (t0 t1 t2 t3 t4 t5 f0 f1 f2 f3 f4 f5 kd : Int) (hb : ebRowB R n0 t0 t1 t2 t3 t4 t5 f0 f1 f2 f3 f4 f5 kd) : @EntOK (ebRowV R hR n0 t0 t1 t2 t3 t4 t5 f0 f1 f2 f3 f4 f5 kd) Try.prog ebRows10 := by
  letI : Env := ebRowV R hR n0 t0 t1 t2 t3 t4 t5 f0 f1 f2 f3 f4 f5 kd
  exact entConvV (k := .i64) (l := .u8) (a := (kd / 256)) (c := (kd / 256)) rfl rfl (by rw [IntWalk.i64_in _ (by first | omega | (simp only [sumVal, oct.sumF, oct.F, oct.ws]; omega))])
def ebRows11 : Ent := .bin .shl (.chan (some 20)) (.int .u64 8) (.chan (some 21))
theorem ebRows11_ok (R : Nat → Int) (hR : ∀ j, 0 ≤ R j ∧ R j ≤ 255) (n0 : Nat) (t0 t1 t2 t3 t4 t5 f0 f1 f2 f3 f4 f5 kd : Int) (hb : ebRowB R n0 t0 t1 t2 t3 t4 t5 f0 f1 f2 f3 f4 f5 kd) : @EntOK (ebRowV R hR n0 t0 t1 t2 t3 t4 t5 f0 f1 f2 f3 f4 f5 kd) Try.prog ebRows11 := by
  letI : Env := ebRowV R hR n0 t0 t1 t2 t3 t4 t5 f0 f1 f2 f3 f4 f5 kd
  exact entShlV (k := .i64) (l := .u64) (a := (kd / 256)) (c := ((kd / 256) * 256)) (s := 8) rfl rfl rfl (by decide) (by show IntKind.i64.wrap ((kd / 256) * 2 ^ 8) = ((kd / 256) * 256); rw [show ((2 : Int) ^ 8) = 256 from by decide, IntWalk.i64_in _ (by first | omega | (simp only [sumVal, oct.sumF, oct.F, oct.ws]; omega))])
def ebRows12 : Ent := .conv .i64 (.chan (some 17)) (.chan (some 22))
theorem ebRows12_ok (R : Nat → Int) (hR : ∀ j, 0 ≤ R j ∧ R j ≤ 255) (n0 : Nat) (t0 t1 t2 t3 t4 t5 f0 f1 f2 f3 f4 f5 kd : Int) (hb : ebRowB R n0 t0 t1 t2 t3 t4 t5 f0 f1 f2 f3 f4 f5 kd) : @EntOK (ebRowV R hR n0 t0 t1 t2 t3 t4 t5 f0 f1 f2 f3 f4 f5 kd) Try.prog ebRows12 := by
  letI : Env := ebRowV R hR n0 t0 t1 t2 t3 t4 t5 f0 f1 f2 f3 f4 f5 kd
  exact entConvV (k := .i64) (l := .u8) (a := (kd % 256)) (c := (kd % 256)) rfl rfl (by rw [IntWalk.i64_in _ (by first | omega | (simp only [sumVal, oct.sumF, oct.F, oct.ws]; omega))])
def ebRows13 : Ent := .bin .or (.chan (some 21)) (.chan (some 22)) (.chan (some 23))
theorem ebRows13_ok (R : Nat → Int) (hR : ∀ j, 0 ≤ R j ∧ R j ≤ 255) (n0 : Nat) (t0 t1 t2 t3 t4 t5 f0 f1 f2 f3 f4 f5 kd : Int) (hb : ebRowB R n0 t0 t1 t2 t3 t4 t5 f0 f1 f2 f3 f4 f5 kd) : @EntOK (ebRowV R hR n0 t0 t1 t2 t3 t4 t5 f0 f1 f2 f3 f4 f5 kd) Try.prog ebRows13 := by
  letI : Env := ebRowV R hR n0 t0 t1 t2 t3 t4 t5 f0 f1 f2 f3 f4 f5 kd
  exact entOrV (k := .i64) (a := ((kd / 256) * 256)) (b := (kd % 256)) (c := (((kd / 256) * 256) + (kd % 256))) rfl rfl rfl (by exact join_i64 (kd / 256) (kd % 256) 8 256 (by decide) (by first | omega | (simp only [sumVal, oct.sumF, oct.F, oct.ws]; omega)) (by first | omega | (simp only [sumVal, oct.sumF, oct.F, oct.ws]; omega)) (by first | omega | (simp only [sumVal, oct.sumF, oct.F, oct.ws]; omega)) (by first | omega | (simp only [sumVal, oct.sumF, oct.F, oct.ws]; omega)))
def ebRows14 : Ent := .eqs true 23 [.chan (some 1), .chan (some 2), .chan (some 3), .chan (some 4), .chan (some 5), .chan (some 6)] [.chan (some 1), .chan (some 2), .chan (some 3), .chan (some 4), .chan (some 5), .chan (some 6)] false
theorem ebRows14_ok (R : Nat → Int) (hR : ∀ j, 0 ≤ R j ∧ R j ≤ 255) (n0 : Nat) (t0 t1 t2 t3 t4 t5 f0 f1 f2 f3 f4 f5 kd : Int) (hb : ebRowB R n0 t0 t1 t2 t3 t4 t5 f0 f1 f2 f3 f4 f5 kd) : @EntOK (ebRowV R hR n0 t0 t1 t2 t3 t4 t5 f0 f1 f2 f3 f4 f5 kd) Try.prog ebRows14 := by
  letI : Env := ebRowV R hR n0 t0 t1 t2 t3 t4 t5 f0 f1 f2 f3 f4 f5 kd
  exact ⟨by intro v hv; simp only [List.mem_cons, List.not_mem_nil, or_false] at hv; rcases hv with rfl | rfl | rfl | rfl | rfl | rfl <;> first | exact .inl ⟨_, _, rfl⟩ | exact .inr ⟨_, rfl⟩, by intro v hv; simp only [List.mem_cons, List.not_mem_nil, or_false] at hv; rcases hv with rfl | rfl | rfl | rfl | rfl | rfl <;> first | exact .inl ⟨_, _, rfl⟩ | exact .inr ⟨_, rfl⟩, by intro a1 a2 w; (first | (refine eqMACd _ _ _ _ _ _ _ _ _ _ _ _ _ ?_ a1 a2 w; exact decide_eq_true (by omega)) | (refine neMACt _ _ _ _ _ _ _ _ _ _ _ _ ?_ a1 a2 w; exact decide_eq_true (by omega)))⟩
def ebRows15 : Ent := .eqs true 23 [.chan (some 7), .chan (some 8), .chan (some 9), .chan (some 10), .chan (some 11), .chan (some 12)] [.chan (some 7), .chan (some 8), .chan (some 9), .chan (some 10), .chan (some 11), .chan (some 12)] false
theorem ebRows15_ok (R : Nat → Int) (hR : ∀ j, 0 ≤ R j ∧ R j ≤ 255) (n0 : Nat) (t0 t1 t2 t3 t4 t5 f0 f1 f2 f3 f4 f5 kd : Int) (hb : ebRowB R n0 t0 t1 t2 t3 t4 t5 f0 f1 f2 f3 f4 f5 kd) : @EntOK (ebRowV R hR n0 t0 t1 t2 t3 t4 t5 f0 f1 f2 f3 f4 f5 kd) Try.prog ebRows15 := by
  letI : Env := ebRowV R hR n0 t0 t1 t2 t3 t4 t5 f0 f1 f2 f3 f4 f5 kd
  exact ⟨by intro v hv; simp only [List.mem_cons, List.not_mem_nil, or_false] at hv; rcases hv with rfl | rfl | rfl | rfl | rfl | rfl <;> first | exact .inl ⟨_, _, rfl⟩ | exact .inr ⟨_, rfl⟩, by intro v hv; simp only [List.mem_cons, List.not_mem_nil, or_false] at hv; rcases hv with rfl | rfl | rfl | rfl | rfl | rfl <;> first | exact .inl ⟨_, _, rfl⟩ | exact .inr ⟨_, rfl⟩, by intro a1 a2 w; (first | (refine eqMACd _ _ _ _ _ _ _ _ _ _ _ _ _ ?_ a1 a2 w; exact decide_eq_true (by omega)) | (refine neMACt _ _ _ _ _ _ _ _ _ _ _ _ ?_ a1 a2 w; exact decide_eq_true (by omega)))⟩
def ebRows16 : Ent := .bin .neq (.chan (some 23)) (.chan (some 13)) (.bool false)
theorem ebRows16_ok (R : Nat → Int) (hR : ∀ j, 0 ≤ R j ∧ R j ≤ 255) (n0 : Nat) (t0 t1 t2 t3 t4 t5 f0 f1 f2 f3 f4 f5 kd : Int) (hb : ebRowB R n0 t0 t1 t2 t3 t4 t5 f0 f1 f2 f3 f4 f5 kd) (hc : (((kd / 256) * 256) + (kd % 256)) = kd) : @EntOK (ebRowV R hR n0 t0 t1 t2 t3 t4 t5 f0 f1 f2 f3 f4 f5 kd) Try.prog ebRows16 := by
  letI : Env := ebRowV R hR n0 t0 t1 t2 t3 t4 t5 f0 f1 f2 f3 f4 f5 kd
  exact entCmp (k := .i64) (a := (((kd / 256) * 256) + (kd % 256))) (b := kd) rfl rfl (by show some (((((kd / 256) * 256) + (kd % 256)) : Int) != kd) = some false; rw [bne_eq_false_iff_eq.2 (by first | omega | (simp only [sumVal, oct.sumF, oct.F, oct.ws]; omega))])
def ebRows17 : Ent := .bin .neq (.chan (some 0)) (.chan (some 0)) (.bool false)
theorem ebRows17_ok (R : Nat → Int) (hR : ∀ j, 0 ≤ R j ∧ R j ≤ 255) (n0 : Nat) (t0 t1 t2 t3 t4 t5 f0 f1 f2 f3 f4 f5 kd : Int) (hb : ebRowB R n0 t0 t1 t2 t3 t4 t5 f0 f1 f2 f3 f4 f5 kd) : @EntOK (ebRowV R hR n0 t0 t1 t2 t3 t4 t5 f0 f1 f2 f3 f4 f5 kd) Try.prog ebRows17 := by
  letI : Env := ebRowV R hR n0 t0 t1 t2 t3 t4 t5 f0 f1 f2 f3 f4 f5 kd
  exact entCmp (k := .i64) (a := (n0 : Int)) (b := (n0 : Int)) rfl rfl (by show some (((n0 : Int) : Int) != (n0 : Int)) = some false; rw [bne_eq_false_iff_eq.2 (by first | omega | (simp only [sumVal, oct.sumF, oct.F, oct.ws]; omega))])
def ebRows18 : Ent := .bin .lss (.chan (some 0)) (.chan (some 0)) (.bool false)
theorem ebRows18_ok (R : Nat → Int) (hR : ∀ j, 0 ≤ R j ∧ R j ≤ 255) (n0 : Nat) (t0 t1 t2 t3 t4 t5 f0 f1 f2 f3 f4 f5 kd : Int) (hb : ebRowB R n0 t0 t1 t2 t3 t4 t5 f0 f1 f2 f3 f4 f5 kd) : @EntOK (ebRowV R hR n0 t0 t1 t2 t3 t4 t5 f0 f1 f2 f3 f4 f5 kd) Try.prog ebRows18 := by
  letI : Env := ebRowV R hR n0 t0 t1 t2 t3 t4 t5 f0 f1 f2 f3 f4 f5 kd
  exact entCmp (k := .i64) (a := (n0 : Int)) (b := (n0 : Int)) rfl rfl (by show some (decide (((n0 : Int) : Int) < (n0 : Int))) = some false; rw [decide_eq_false (by first | omega | (simp only [sumVal, oct.sumF, oct.F, oct.ws]; omega))])
abbrev ebRowG : List Ent := [ebRows4, ebRows5, ebRows6, ebRows7, ebRows8, ebRows9, ebRows10, ebRows11, ebRows12, ebRows13, ebRows14, ebRows15, ebRows17, ebRows18]
theorem ebRowG_ok (R : Nat → Int) (hR : ∀ j, 0 ≤ R j ∧ R j ≤ 255) (n0 : Nat) (t0 t1 t2 t3 t4 t5 f0 f1 f2 f3 f4 f5 kd : Int) (hb : ebRowB R n0 t0 t1 t2 t3 t4 t5 f0 f1 f2 f3 f4 f5 kd) : ∀ e ∈ ebRowG, @EntOK (ebRowV R hR n0 t0 t1 t2 t3 t4 t5 f0 f1 f2 f3 f4 f5 kd) Try.prog e := by
  letI : Env := ebRowV R hR n0 t0 t1 t2 t3 t4 t5 f0 f1 f2 f3 f4 f5 kd
  exact (ac (ebRows4_ok R hR n0 t0 t1 t2 t3 t4 t5 f0 f1 f2 f3 f4 f5 kd hb) (ac (ebRows5_ok R hR n0 t0 t1 t2 t3 t4 t5 f0 f1 f2 f3 f4 f5 kd hb) (ac (ebRows6_ok R hR n0 t0 t1 t2 t3 t4 t5 f0 f1 f2 f3 f4 f5 kd hb) (ac (ebRows7_ok R hR n0 t0 t1 t2 t3 t4 t5 f0 f1 f2 f3 f4 f5 kd hb) (ac (ebRows8_ok R hR n0 t0 t1 t2 t3 t4 t5 f0 f1 f2 f3 f4 f5 kd hb) (ac (ebRows9_ok R hR n0 t0 t1 t2 t3 t4 t5 f0 f1 f2 f3 f4 f5 kd hb) (ac (ebRows10_ok R hR n0 t0 t1 t2 t3 t4 t5 f0 f1 f2 f3 f4 f5 kd hb) (ac (ebRows11_ok R hR n0 t0 t1 t2 t3 t4 t5 f0 f1 f2 f3 f4 f5 kd hb) (ac (ebRows12_ok R hR n0 t0 t1 t2 t3 t4 t5 f0 f1 f2 f3 f4 f5 kd hb) (ac (ebRows13_ok R hR n0 t0 t1 t2 t3 t4 t5 f0 f1 f2 f3 f4 f5 kd hb) (ac (ebRows14_ok R hR n0 t0 t1 t2 t3 t4 t5 f0 f1 f2 f3 f4 f5 kd hb) (ac (ebRows15_ok R hR n0 t0 t1 t2 t3 t4 t5 f0 f1 f2 f3 f4 f5 kd hb) (ac (ebRows17_ok R hR n0 t0 t1 t2 t3 t4 t5 f0 f1 f2 f3 f4 f5 kd hb) (ac (ebRows18_ok R hR n0 t0 t1 t2 t3 t4 t5 f0 f1 f2 f3 f4 f5 kd hb) allENil))))))))))))))
set_option maxHeartbeats 4000000 in
theorem ebRow_run (w : World) (R : Nat → Int) (hR : ∀ j, 0 ≤ R j ∧ R j ≤ 255) (A0 : Addr) (n0 cp0 : Nat) (w0 : RowIn R 1048576 w A0 n0 cp0) (hn : n0 ≤ 70000) (hm : 1 ≤ n0) (hx : 46 ≤ n0) (t0 t1 t2 t3 t4 t5 f0 f1 f2 f3 f4 f5 kd : Int) (ht0 : 0 ≤ t0 ∧ t0 ≤ 255) (ht1 : 0 ≤ t1 ∧ t1 ≤ 255) (ht2 : 0 ≤ t2 ∧ t2 ≤ 255) (ht3 : 0 ≤ t3 ∧ t3 ≤ 255) (ht4 : 0 ≤ t4 ∧ t4 ≤ 255) (ht5 : 0 ≤ t5 ∧ t5 ≤ 255) (hf0 : 0 ≤ f0 ∧ f0 ≤ 255) (hf1 : 0 ≤ f1 ∧ f1 ≤ 255) (hf2 : 0 ≤ f2 ∧ f2 ≤ 255) (hf3 : 0 ≤ f3 ∧ f3 ≤ 255) (hf4 : 0 ≤ f4 ∧ f4 ≤ 255) (hf5 : 0 ≤ f5 ∧ f5 ≤ 255) (hkd : (-9223372036854775808) ≤ kd ∧ kd ≤ 9223372036854775807) (hgk : 1536 ≤ kd ∧ kd ≤ 65535) (m0 : Nat) (hm0 : m0 ≤ n0) (L : List Ent) (hents : ∀ e ∈ L, @EntOK (ebRowV R hR n0 t0 t1 t2 t3 t4 t5 f0 f1 f2 f3 f4 f5 kd) Try.prog e) (h : says (fxCall Try.prog (tabG Try.prog L) (spTwo (spHelp ⟨12, 9, 13, 5⟩ [0]) (spKnown 15)) 300 5 [.agg #[.chan (some 1), .chan (some 2), .chan (some 3), .chan (some 4), .chan (some 5), .chan (some 6), .chan (some 7), .chan (some 8), .chan (some 9), .chan (some 10), .chan (some 11), .chan (some 12), .chan (some 13), .slice (some ⟨0, 0, some 1⟩) m0 0]] 1 (mem1 (rowAo 1048576 0 m0 5))) = some true) : Calls Try.prog 5 #[.agg #[.int .u8 t0, .int .u8 t1, .int .u8 t2, .int .u8 t3, .int .u8 t4, .int .u8 t5, .int .u8 f0, .int .u8 f1, .int .u8 f2, .int .u8 f3, .int .u8 f4, .int .u8 f5, .int .i64 kd, .slice (some A0) n0 cp0]] w (fun e w' => e = .returned (.bool true) ∧ Only [] w w') := by
  letI : Env := (ebRowV R hR n0 t0 t1 t2 t3 t4 t5 f0 f1 f2 f3 f4 f5 kd)
  have hsp : SpOK Try.prog (spTwo (spHelp ⟨12, 9, 13, 5⟩ [0]) (spKnown 15)) := (spTwo_ok (spHelp_ok helpC (by
    intro q hq
    simp only [List.mem_cons, List.not_mem_nil, or_false] at hq
    subst hq
    rw [lenOf_eq (n := n0) rfl]; omega)) (spKnown_ok knownBody known))
  refine lawR (tab := tabG Try.prog L) hsp (tabG_ok hents) (c0 := 1) (β0 := mp1 (rowIm A0 n0 cp0)) (w := w) h (sim1 rfl w0.lt (rowIn_ob w0 (by decide) rfl (by omega))) (fun i hi => ?_) ?_
  · match i, hi with
    | i + 1, _ => rfl
  · exact (PW.cons (PW.agg (PW.cons (.opq 1 rfl (fun b h => by cases h)) (PW.cons (.opq 2 rfl (fun b h => by cases h)) (PW.cons (.opq 3 rfl (fun b h => by cases h)) (PW.cons (.opq 4 rfl (fun b h => by cases h)) (PW.cons (.opq 5 rfl (fun b h => by cases h)) (PW.cons (.opq 6 rfl (fun b h => by cases h)) (PW.cons (.opq 7 rfl (fun b h => by cases h)) (PW.cons (.opq 8 rfl (fun b h => by cases h)) (PW.cons (.opq 9 rfl (fun b h => by cases h)) (PW.cons (.opq 10 rfl (fun b h => by cases h)) (PW.cons (.opq 11 rfl (fun b h => by cases h)) (PW.cons (.opq 12 rfl (fun b h => by cases h)) (PW.cons (.opq 13 rfl (fun b h => by cases h)) (PW.cons (rowIn_vr (m := m0) w0 rfl (by omega) (by omega) rfl) (PW.nil _)))))))))))))))) (PW.nil _))
abbrev ebRow0L : List Ent := ebRows0 :: ebRowG
theorem ebRow0 (w : World) (R : Nat → Int) (hR : ∀ j, 0 ≤ R j ∧ R j ≤ 255) (A0 : Addr) (n0 cp0 : Nat) (w0 : RowIn R 1048576 w A0 n0 cp0) (hn : n0 ≤ 70000) (hm : 1 ≤ n0) (hx : 46 ≤ n0) (t0 t1 t2 t3 t4 t5 f0 f1 f2 f3 f4 f5 kd : Int) (ht0 : 0 ≤ t0 ∧ t0 ≤ 255) (ht1 : 0 ≤ t1 ∧ t1 ≤ 255) (ht2 : 0 ≤ t2 ∧ t2 ≤ 255) (ht3 : 0 ≤ t3 ∧ t3 ≤ 255) (ht4 : 0 ≤ t4 ∧ t4 ≤ 255) (ht5 : 0 ≤ t5 ∧ t5 ≤ 255) (hf0 : 0 ≤ f0 ∧ f0 ≤ 255) (hf1 : 0 ≤ f1 ∧ f1 ≤ 255) (hf2 : 0 ≤ f2 ∧ f2 ≤ 255) (hf3 : 0 ≤ f3 ∧ f3 ≤ 255) (hf4 : 0 ≤ f4 ∧ f4 ≤ 255) (hf5 : 0 ≤ f5 ∧ f5 ≤ 255) (hkd : (-9223372036854775808) ≤ kd ∧ kd ≤ 9223372036854775807) (hgk : 1536 ≤ kd ∧ kd ≤ 65535) (k0 : (n0 : Int) > 2000) : Calls Try.prog 5 #[.agg #[.int .u8 t0, .int .u8 t1, .int .u8 t2, .int .u8 t3, .int .u8 t4, .int .u8 t5, .int .u8 f0, .int .u8 f1, .int .u8 f2, .int .u8 f3, .int .u8 f4, .int .u8 f5, .int .i64 kd, .slice (some A0) n0 cp0]] w (fun e w' => e = .returned (.bool true) ∧ Only [] w w') := by
  letI : Env := (ebRowV R hR n0 t0 t1 t2 t3 t4 t5 f0 f1 f2 f3 f4 f5 kd)
  have hb : ebRowB R n0 t0 t1 t2 t3 t4 t5 f0 f1 f2 f3 f4 f5 kd := ⟨hn, hx, hgk, ht0, ht1, ht2, ht3, ht4, ht5, hf0, hf1, hf2, hf3, hf4, hf5, hkd⟩
  exact ebRow_run w R hR A0 n0 cp0 w0 hn hm hx t0 t1 t2 t3 t4 t5 f0 f1 f2 f3 f4 f5 kd ht0 ht1 ht2 ht3 ht4 ht5 hf0 hf1 hf2 hf3 hf4 hf5 hkd hgk 46 (by omega) ebRow0L (ac (ebRows0_ok R hR n0 t0 t1 t2 t3 t4 t5 f0 f1 f2 f3 f4 f5 kd hb k0) (ebRowG_ok R hR n0 t0 t1 t2 t3 t4 t5 f0 f1 f2 f3 f4 f5 kd hb)) (by kernel_rfl)
abbrev ebRow1K (R : Nat → Int) (n0 : Nat) (t0 t1 t2 t3 t4 t5 f0 f1 f2 f3 f4 f5 kd : Int) : Prop := ebRowB R n0 t0 t1 t2 t3 t4 t5 f0 f1 f2 f3 f4 f5 kd ∧ (¬ ((n0 : Int) > 2000)) ∧ ((n0 : Int) > 1500) ∧ True
def ebRow1e1 : Ent := .bin .lss (.chan (some 13)) (.int .i64 1536) (.bool false)
theorem ebRow1e1_ok (R : Nat → Int) (hR : ∀ j, 0 ≤ R j ∧ R j ≤ 255) (n0 : Nat) (t0 t1 t2 t3 t4 t5 f0 f1 f2 f3 f4 f5 kd : Int) (hk : ebRow1K R n0 t0 t1 t2 t3 t4 t5 f0 f1 f2 f3 f4 f5 kd) : @EntOK (ebRowV R hR n0 t0 t1 t2 t3 t4 t5 f0 f1 f2 f3 f4 f5 kd) Try.prog ebRow1e1 := by
  letI : Env := (ebRowV R hR n0 t0 t1 t2 t3 t4 t5 f0 f1 f2 f3 f4 f5 kd)
  obtain ⟨hb, k0, k1, _⟩ := hk; exact entCmp (k := .i64) (a := kd) (b := 1536) rfl rfl (by show some (decide ((kd : Int) < 1536)) = some false; rw [decide_eq_false (by first | omega | (simp only [sumVal, oct.sumF, oct.F, oct.ws]; omega))])
def ebRow1e2 : Ent := .bin .gtr (.chan (some 13)) (.int .i64 65535) (.bool false)
theorem ebRow1e2_ok (R : Nat → Int) (hR : ∀ j, 0 ≤ R j ∧ R j ≤ 255) (n0 : Nat) (t0 t1 t2 t3 t4 t5 f0 f1 f2 f3 f4 f5 kd : Int) (hk : ebRow1K R n0 t0 t1 t2 t3 t4 t5 f0 f1 f2 f3 f4 f5 kd) : @EntOK (ebRowV R hR n0 t0 t1 t2 t3 t4 t5 f0 f1 f2 f3 f4 f5 kd) Try.prog ebRow1e2 := by
  letI : Env := (ebRowV R hR n0 t0 t1 t2 t3 t4 t5 f0 f1 f2 f3 f4 f5 kd)
  obtain ⟨hb, k0, k1, _⟩ := hk; exact entCmp (k := .i64) (a := kd) (b := 65535) rfl rfl (by show some (decide ((kd : Int) > 65535)) = some false; rw [decide_eq_false (by first | omega | (simp only [sumVal, oct.sumF, oct.F, oct.ws]; omega))])
abbrev ebRow1L : List Ent := ebRows1 :: ebRow1e1 :: ebRow1e2 :: ebRows2 :: ebRowG
theorem ebRow1 (w : World) (R : Nat → Int) (hR : ∀ j, 0 ≤ R j ∧ R j ≤ 255) (A0 : Addr) (n0 cp0 : Nat) (w0 : RowIn R 1048576 w A0 n0 cp0) (hn : n0 ≤ 70000) (hm : 1 ≤ n0) (hx : 46 ≤ n0) (t0 t1 t2 t3 t4 t5 f0 f1 f2 f3 f4 f5 kd : Int) (ht0 : 0 ≤ t0 ∧ t0 ≤ 255) (ht1 : 0 ≤ t1 ∧ t1 ≤ 255) (ht2 : 0 ≤ t2 ∧ t2 ≤ 255) (ht3 : 0 ≤ t3 ∧ t3 ≤ 255) (ht4 : 0 ≤ t4 ∧ t4 ≤ 255) (ht5 : 0 ≤ t5 ∧ t5 ≤ 255) (hf0 : 0 ≤ f0 ∧ f0 ≤ 255) (hf1 : 0 ≤ f1 ∧ f1 ≤ 255) (hf2 : 0 ≤ f2 ∧ f2 ≤ 255) (hf3 : 0 ≤ f3 ∧ f3 ≤ 255) (hf4 : 0 ≤ f4 ∧ f4 ≤ 255) (hf5 : 0 ≤ f5 ∧ f5 ≤ 255) (hkd : (-9223372036854775808) ≤ kd ∧ kd ≤ 9223372036854775807) (hgk : 1536 ≤ kd ∧ kd ≤ 65535) (k0 : ¬ ((n0 : Int) > 2000)) (k1 : (n0 : Int) > 1500) : Calls Try.prog 5 #[.agg #[.int .u8 t0, .int .u8 t1, .int .u8 t2, .int .u8 t3, .int .u8 t4, .int .u8 t5, .int .u8 f0, .int .u8 f1, .int .u8 f2, .int .u8 f3, .int .u8 f4, .int .u8 f5, .int .i64 kd, .slice (some A0) n0 cp0]] w (fun e w' => e = .returned (.bool true) ∧ Only [] w w') := by
  letI : Env := (ebRowV R hR n0 t0 t1 t2 t3 t4 t5 f0 f1 f2 f3 f4 f5 kd)
  have hb : ebRowB R n0 t0 t1 t2 t3 t4 t5 f0 f1 f2 f3 f4 f5 kd := ⟨hn, hx, hgk, ht0, ht1, ht2, ht3, ht4, ht5, hf0, hf1, hf2, hf3, hf4, hf5, hkd⟩
  have hk : ebRow1K R n0 t0 t1 t2 t3 t4 t5 f0 f1 f2 f3 f4 f5 kd := ⟨hb, k0, k1, trivial⟩
  exact ebRow_run w R hR A0 n0 cp0 w0 hn hm hx t0 t1 t2 t3 t4 t5 f0 f1 f2 f3 f4 f5 kd ht0 ht1 ht2 ht3 ht4 ht5 hf0 hf1 hf2 hf3 hf4 hf5 hkd hgk 46 (by omega) ebRow1L (ac (ebRows1_ok R hR n0 t0 t1 t2 t3 t4 t5 f0 f1 f2 f3 f4 f5 kd hb k0) (ac (ebRow1e1_ok R hR n0 t0 t1 t2 t3 t4 t5 f0 f1 f2 f3 f4 f5 kd hk) (ac (ebRow1e2_ok R hR n0 t0 t1 t2 t3 t4 t5 f0 f1 f2 f3 f4 f5 kd hk) (ac (ebRows2_ok R hR n0 t0 t1 t2 t3 t4 t5 f0 f1 f2 f3 f4 f5 kd hb k1) (ebRowG_ok R hR n0 t0 t1 t2 t3 t4 t5 f0 f1 f2 f3 f4 f5 kd hb))))) (by kernel_rfl)
abbrev ebRow2K (R : Nat → Int) (n0 : Nat) (t0 t1 t2 t3 t4 t5 f0 f1 f2 f3 f4 f5 kd : Int) : Prop := ebRowB R n0 t0 t1 t2 t3 t4 t5 f0 f1 f2 f3 f4 f5 kd ∧ (¬ ((n0 : Int) > 2000)) ∧ (¬ ((n0 : Int) > 1500)) ∧ ((((kd / 256) * 256) + (kd % 256)) = kd) ∧ True
def ebRow2e1 : Ent := .bin .lss (.chan (some 13)) (.int .i64 1536) (.bool false)
theorem ebRow2e1_ok (R : Nat → Int) (hR : ∀ j, 0 ≤ R j ∧ R j ≤ 255) (n0 : Nat) (t0 t1 t2 t3 t4 t5 f0 f1 f2 f3 f4 f5 kd : Int) (hk : ebRow2K R n0 t0 t1 t2 t3 t4 t5 f0 f1 f2 f3 f4 f5 kd) : @EntOK (ebRowV R hR n0 t0 t1 t2 t3 t4 t5 f0 f1 f2 f3 f4 f5 kd) Try.prog ebRow2e1 := by
  letI : Env := (ebRowV R hR n0 t0 t1 t2 t3 t4 t5 f0 f1 f2 f3 f4 f5 kd)
  obtain ⟨hb, k0, k1, k2, _⟩ := hk; exact entCmp (k := .i64) (a := kd) (b := 1536) rfl rfl (by show some (decide ((kd : Int) < 1536)) = some false; rw [decide_eq_false (by first | omega | (simp only [sumVal, oct.sumF, oct.F, oct.ws]; omega))])
def ebRow2e2 : Ent := .bin .gtr (.chan (some 13)) (.int .i64 65535) (.bool false)
theorem ebRow2e2_ok (R : Nat → Int) (hR : ∀ j, 0 ≤ R j ∧ R j ≤ 255) (n0 : Nat) (t0 t1 t2 t3 t4 t5 f0 f1 f2 f3 f4 f5 kd : Int) (hk : ebRow2K R n0 t0 t1 t2 t3 t4 t5 f0 f1 f2 f3 f4 f5 kd) : @EntOK (ebRowV R hR n0 t0 t1 t2 t3 t4 t5 f0 f1 f2 f3 f4 f5 kd) Try.prog ebRow2e2 := by
  letI : Env := (ebRowV R hR n0 t0 t1 t2 t3 t4 t5 f0 f1 f2 f3 f4 f5 kd)
  obtain ⟨hb, k0, k1, k2, _⟩ := hk; exact entCmp (k := .i64) (a := kd) (b := 65535) rfl rfl (by show some (decide ((kd : Int) > 65535)) = some false; rw [decide_eq_false (by first | omega | (simp only [sumVal, oct.sumF, oct.F, oct.ws]; omega))])
def ebRow2e9 : Ent := .mm true (.int .i64 0) (.chan (some 18)) (.int .i64 0)
theorem ebRow2e9_ok (R : Nat → Int) (hR : ∀ j, 0 ≤ R j ∧ R j ≤ 255) (n0 : Nat) (t0 t1 t2 t3 t4 t5 f0 f1 f2 f3 f4 f5 kd : Int) (hk : ebRow2K R n0 t0 t1 t2 t3 t4 t5 f0 f1 f2 f3 f4 f5 kd) : @EntOK (ebRowV R hR n0 t0 t1 t2 t3 t4 t5 f0 f1 f2 f3 f4 f5 kd) Try.prog ebRow2e9 := by
  letI : Env := (ebRowV R hR n0 t0 t1 t2 t3 t4 t5 f0 f1 f2 f3 f4 f5 kd)
  obtain ⟨hb, k0, k1, k2, _⟩ := hk; exact entMmI (k := .i64) (a := 0) (b := (46 - (n0 : Int))) (c := 0) rfl rfl (by first | (simp; done) | (simp; omega) | (split <;> omega))
def ebRow2e11 : Ent := .bin .lss (.chan (some 19)) (.int .i64 14) (.bool false)
theorem ebRow2e11_ok (R : Nat → Int) (hR : ∀ j, 0 ≤ R j ∧ R j ≤ 255) (n0 : Nat) (t0 t1 t2 t3 t4 t5 f0 f1 f2 f3 f4 f5 kd : Int) (hk : ebRow2K R n0 t0 t1 t2 t3 t4 t5 f0 f1 f2 f3 f4 f5 kd) : @EntOK (ebRowV R hR n0 t0 t1 t2 t3 t4 t5 f0 f1 f2 f3 f4 f5 kd) Try.prog ebRow2e11 := by
  letI : Env := (ebRowV R hR n0 t0 t1 t2 t3 t4 t5 f0 f1 f2 f3 f4 f5 kd)
  obtain ⟨hb, k0, k1, k2, _⟩ := hk; exact entCmp (k := .i64) (a := ((n0 : Int) + 14)) (b := 14) rfl rfl (by show some (decide ((((n0 : Int) + 14) : Int) < 14)) = some false; rw [decide_eq_false (by first | omega | (simp only [sumVal, oct.sumF, oct.F, oct.ws]; omega))])
def ebRow2e12 : Ent := .bin .gtr (.chan (some 19)) (.int .i64 1514) (.bool false)
theorem ebRow2e12_ok (R : Nat → Int) (hR : ∀ j, 0 ≤ R j ∧ R j ≤ 255) (n0 : Nat) (t0 t1 t2 t3 t4 t5 f0 f1 f2 f3 f4 f5 kd : Int) (hk : ebRow2K R n0 t0 t1 t2 t3 t4 t5 f0 f1 f2 f3 f4 f5 kd) : @EntOK (ebRowV R hR n0 t0 t1 t2 t3 t4 t5 f0 f1 f2 f3 f4 f5 kd) Try.prog ebRow2e12 := by
  letI : Env := (ebRowV R hR n0 t0 t1 t2 t3 t4 t5 f0 f1 f2 f3 f4 f5 kd)
  obtain ⟨hb, k0, k1, k2, _⟩ := hk; exact entCmp (k := .i64) (a := ((n0 : Int) + 14)) (b := 1514) rfl rfl (by show some (decide ((((n0 : Int) + 14) : Int) > 1514)) = some false; rw [decide_eq_false (by first | omega | (simp only [sumVal, oct.sumF, oct.F, oct.ws]; omega))])
def ebRow2e17 : Ent := .bin .lss (.chan (some 23)) (.int .i64 1536) (.bool false)
theorem ebRow2e17_ok (R : Nat → Int) (hR : ∀ j, 0 ≤ R j ∧ R j ≤ 255) (n0 : Nat) (t0 t1 t2 t3 t4 t5 f0 f1 f2 f3 f4 f5 kd : Int) (hk : ebRow2K R n0 t0 t1 t2 t3 t4 t5 f0 f1 f2 f3 f4 f5 kd) : @EntOK (ebRowV R hR n0 t0 t1 t2 t3 t4 t5 f0 f1 f2 f3 f4 f5 kd) Try.prog ebRow2e17 := by
  letI : Env := (ebRowV R hR n0 t0 t1 t2 t3 t4 t5 f0 f1 f2 f3 f4 f5 kd)
  obtain ⟨hb, k0, k1, k2, _⟩ := hk; exact entCmp (k := .i64) (a := (((kd / 256) * 256) + (kd % 256))) (b := 1536) rfl rfl (by show some (decide (((((kd / 256) * 256) + (kd % 256)) : Int) < 1536)) = some false; rw [decide_eq_false (by first | omega | (simp only [sumVal, oct.sumF, oct.F, oct.ws]; omega))])
def ebRow2e21 : Ent := .mm true (.chan (some 0)) (.int .i64 46) (.chan (some 0))
theorem ebRow2e21_ok (R : Nat → Int) (hR : ∀ j, 0 ≤ R j ∧ R j ≤ 255) (n0 : Nat) (t0 t1 t2 t3 t4 t5 f0 f1 f2 f3 f4 f5 kd : Int) (hk : ebRow2K R n0 t0 t1 t2 t3 t4 t5 f0 f1 f2 f3 f4 f5 kd) : @EntOK (ebRowV R hR n0 t0 t1 t2 t3 t4 t5 f0 f1 f2 f3 f4 f5 kd) Try.prog ebRow2e21 := by
  letI : Env := (ebRowV R hR n0 t0 t1 t2 t3 t4 t5 f0 f1 f2 f3 f4 f5 kd)
  obtain ⟨hb, k0, k1, k2, _⟩ := hk; exact entMm (k := .i64) (a := (n0 : Int)) (b := 46) (c := (n0 : Int)) rfl rfl rfl (by first | (simp; done) | (simp; omega) | (split <;> omega))
abbrev ebRow2L : List Ent := ebRows1 :: ebRow2e1 :: ebRow2e2 :: ebRows3 :: ebRow2e9 :: ebRow2e11 :: ebRow2e12 :: ebRow2e17 :: ebRows16 :: ebRow2e21 :: ebRowG
theorem ebRow2 (w : World) (R : Nat → Int) (hR : ∀ j, 0 ≤ R j ∧ R j ≤ 255) (A0 : Addr) (n0 cp0 : Nat) (w0 : RowIn R 1048576 w A0 n0 cp0) (hn : n0 ≤ 70000) (hm : 1 ≤ n0) (hx : 46 ≤ n0) (t0 t1 t2 t3 t4 t5 f0 f1 f2 f3 f4 f5 kd : Int) (ht0 : 0 ≤ t0 ∧ t0 ≤ 255) (ht1 : 0 ≤ t1 ∧ t1 ≤ 255) (ht2 : 0 ≤ t2 ∧ t2 ≤ 255) (ht3 : 0 ≤ t3 ∧ t3 ≤ 255) (ht4 : 0 ≤ t4 ∧ t4 ≤ 255) (ht5 : 0 ≤ t5 ∧ t5 ≤ 255) (hf0 : 0 ≤ f0 ∧ f0 ≤ 255) (hf1 : 0 ≤ f1 ∧ f1 ≤ 255) (hf2 : 0 ≤ f2 ∧ f2 ≤ 255) (hf3 : 0 ≤ f3 ∧ f3 ≤ 255) (hf4 : 0 ≤ f4 ∧ f4 ≤ 255) (hf5 : 0 ≤ f5 ∧ f5 ≤ 255) (hkd : (-9223372036854775808) ≤ kd ∧ kd ≤ 9223372036854775807) (hgk : 1536 ≤ kd ∧ kd ≤ 65535) (k0 : ¬ ((n0 : Int) > 2000)) (k1 : ¬ ((n0 : Int) > 1500)) (k2 : (((kd / 256) * 256) + (kd % 256)) = kd) : Calls Try.prog 5 #[.agg #[.int .u8 t0, .int .u8 t1, .int .u8 t2, .int .u8 t3, .int .u8 t4, .int .u8 t5, .int .u8 f0, .int .u8 f1, .int .u8 f2, .int .u8 f3, .int .u8 f4, .int .u8 f5, .int .i64 kd, .slice (some A0) n0 cp0]] w (fun e w' => e = .returned (.bool true) ∧ Only [] w w') := by
  letI : Env := (ebRowV R hR n0 t0 t1 t2 t3 t4 t5 f0 f1 f2 f3 f4 f5 kd)
  have hb : ebRowB R n0 t0 t1 t2 t3 t4 t5 f0 f1 f2 f3 f4 f5 kd := ⟨hn, hx, hgk, ht0, ht1, ht2, ht3, ht4, ht5, hf0, hf1, hf2, hf3, hf4, hf5, hkd⟩
  have hk : ebRow2K R n0 t0 t1 t2 t3 t4 t5 f0 f1 f2 f3 f4 f5 kd := ⟨hb, k0, k1, k2, trivial⟩
  exact ebRow_run w R hR A0 n0 cp0 w0 hn hm hx t0 t1 t2 t3 t4 t5 f0 f1 f2 f3 f4 f5 kd ht0 ht1 ht2 ht3 ht4 ht5 hf0 hf1 hf2 hf3 hf4 hf5 hkd hgk 46 (by omega) ebRow2L (ac (ebRows1_ok R hR n0 t0 t1 t2 t3 t4 t5 f0 f1 f2 f3 f4 f5 kd hb k0) (ac (ebRow2e1_ok R hR n0 t0 t1 t2 t3 t4 t5 f0 f1 f2 f3 f4 f5 kd hk) (ac (ebRow2e2_ok R hR n0 t0 t1 t2 t3 t4 t5 f0 f1 f2 f3 f4 f5 kd hk) (ac (ebRows3_ok R hR n0 t0 t1 t2 t3 t4 t5 f0 f1 f2 f3 f4 f5 kd hb k1) (ac (ebRow2e9_ok R hR n0 t0 t1 t2 t3 t4 t5 f0 f1 f2 f3 f4 f5 kd hk) (ac (ebRow2e11_ok R hR n0 t0 t1 t2 t3 t4 t5 f0 f1 f2 f3 f4 f5 kd hk) (ac (ebRow2e12_ok R hR n0 t0 t1 t2 t3 t4 t5 f0 f1 f2 f3 f4 f5 kd hk) (ac (ebRow2e17_ok R hR n0 t0 t1 t2 t3 t4 t5 f0 f1 f2 f3 f4 f5 kd hk) (ac (ebRows16_ok R hR n0 t0 t1 t2 t3 t4 t5 f0 f1 f2 f3 f4 f5 kd hb k2) (ac (ebRow2e21_ok R hR n0 t0 t1 t2 t3 t4 t5 f0 f1 f2 f3 f4 f5 kd hk) (ebRowG_ok R hR n0 t0 t1 t2 t3 t4 t5 f0 f1 f2 f3 f4 f5 kd hb))))))))))) (by kernel_rfl)
theorem EtherBackRow (w : World) (R : Nat → Int) (hR : ∀ j, 0 ≤ R j ∧ R j ≤ 255) (A0 : Addr) (n0 cp0 : Nat) (w0 : RowIn R 1048576 w A0 n0 cp0) (hn : n0 ≤ 70000) (hm : 1 ≤ n0) (hx : 46 ≤ n0) (t0 t1 t2 t3 t4 t5 f0 f1 f2 f3 f4 f5 kd : Int) (ht0 : 0 ≤ t0 ∧ t0 ≤ 255) (ht1 : 0 ≤ t1 ∧ t1 ≤ 255) (ht2 : 0 ≤ t2 ∧ t2 ≤ 255) (ht3 : 0 ≤ t3 ∧ t3 ≤ 255) (ht4 : 0 ≤ t4 ∧ t4 ≤ 255) (ht5 : 0 ≤ t5 ∧ t5 ≤ 255) (hf0 : 0 ≤ f0 ∧ f0 ≤ 255) (hf1 : 0 ≤ f1 ∧ f1 ≤ 255) (hf2 : 0 ≤ f2 ∧ f2 ≤ 255) (hf3 : 0 ≤ f3 ∧ f3 ≤ 255) (hf4 : 0 ≤ f4 ∧ f4 ≤ 255) (hf5 : 0 ≤ f5 ∧ f5 ≤ 255) (hkd : (-9223372036854775808) ≤ kd ∧ kd ≤ 9223372036854775807) (hgk : 1536 ≤ kd ∧ kd ≤ 65535) : Calls Try.prog 5 #[.agg #[.int .u8 t0, .int .u8 t1, .int .u8 t2, .int .u8 t3, .int .u8 t4, .int .u8 t5, .int .u8 f0, .int .u8 f1, .int .u8 f2, .int .u8 f3, .int .u8 f4, .int .u8 f5, .int .i64 kd, .slice (some A0) n0 cp0]] w (fun e w' => e = .returned (.bool true) ∧ Only [] w w') := by
  by_cases h1 : (n0 : Int) > 2000
  ·
    exact ebRow0 w R hR A0 n0 cp0 w0 hn hm hx t0 t1 t2 t3 t4 t5 f0 f1 f2 f3 f4 f5 kd ht0 ht1 ht2 ht3 ht4 ht5 hf0 hf1 hf2 hf3 hf4 hf5 hkd hgk h1
  ·
    by_cases h2 : (n0 : Int) > 1500
    ·
      exact ebRow1 w R hR A0 n0 cp0 w0 hn hm hx t0 t1 t2 t3 t4 t5 f0 f1 f2 f3 f4 f5 kd ht0 ht1 ht2 ht3 ht4 ht5 hf0 hf1 hf2 hf3 hf4 hf5 hkd hgk h1 h2
    ·
      by_cases h3 : (((kd / 256) * 256) + (kd % 256)) = kd
      ·
        exact ebRow2 w R hR A0 n0 cp0 w0 hn hm hx t0 t1 t2 t3 t4 t5 f0 f1 f2 f3 f4 f5 kd ht0 ht1 ht2 ht3 ht4 ht5 hf0 hf1 hf2 hf3 hf4 hf5 hkd hgk h1 h2 h3
      ·
        exfalso; omega
abbrev ebFixV (R : Nat → Int) (hR : ∀ j, 0 ≤ R j ∧ R j ≤ 255) (n0 : Nat) (t0 t1 t2 t3 t4 t5 f0 f1 f2 f3 f4 f5 kd : Int) : Env := envR [.int .i64 (n0 : Int), .int .u8 t0, .int .u8 t1, .int .u8 t2, .int .u8 t3, .int .u8 t4, .int .u8 t5, .int .u8 f0, .int .u8 f1, .int .u8 f2, .int .u8 f3, .int .u8 f4, .int .u8 f5, .int .i64 kd, .int .u64 kd, .int .u64 (kd / 256), .int .u8 (kd / 256), .int .u8 (kd % 256), .int .i64 (kd / 256), .int .i64 ((kd / 256) * 256), .int .i64 (kd % 256), .int .i64 (((kd / 256) * 256) + (kd % 256))] R hR
abbrev ebFixB (R : Nat → Int) (n0 : Nat) (t0 t1 t2 t3 t4 t5 f0 f1 f2 f3 f4 f5 kd : Int) : Prop := n0 < 46 ∧ 1 ≤ n0 ∧ (1536 ≤ kd ∧ kd ≤ 65535) ∧ (0 ≤ t0 ∧ t0 ≤ 255) ∧ (0 ≤ t1 ∧ t1 ≤ 255) ∧ (0 ≤ t2 ∧ t2 ≤ 255) ∧ (0 ≤ t3 ∧ t3 ≤ 255) ∧ (0 ≤ t4 ∧ t4 ≤ 255) ∧ (0 ≤ t5 ∧ t5 ≤ 255) ∧ (0 ≤ f0 ∧ f0 ≤ 255) ∧ (0 ≤ f1 ∧ f1 ≤ 255) ∧ (0 ≤ f2 ∧ f2 ≤ 255) ∧ (0 ≤ f3 ∧ f3 ≤ 255) ∧ (0 ≤ f4 ∧ f4 ≤ 255) ∧ (0 ≤ f5 ∧ f5 ≤ 255) ∧ ((-9223372036854775808) ≤ kd ∧ kd ≤ 9223372036854775807)
def ebFixs0 : Ent := .conv .u64 (.chan (some 13)) (.chan (some 14))
theorem ebFixs0_ok (R : Nat → Int) (hR : ∀ j, 0 ≤ R j ∧ R j ≤ 255) (n0 : Nat) (t0 t1 t2 t3 t4 t5 f0 f1 f2 f3 f4 f5 kd : Int) (hb : ebFixB R n0 t0 t1 t2 t3 t4 t5 f0 f1 f2 f3 f4 f5 kd) : @EntOK (ebFixV R hR n0 t0 t1 t2 t3 t4 t5 f0 f1 f2 f3 f4 f5 kd) Try.prog ebFixs0 := by
  letI : Env := ebFixV R hR n0 t0 t1 t2 t3 t4 t5 f0 f1 f2 f3 f4 f5 kd
  exact entConvV (k := .u64) (l := .i64) (a := kd) (c := kd) rfl rfl (by rw [IntWalk.u64_in _ (by first | omega | (simp only [sumVal, oct.sumF, oct.F, oct.ws]; omega))])
def ebFixs1 : Ent := .bin .shr (.chan (some 14)) (.int .u64 8) (.chan (some 15))
theorem ebFixs1_ok (R : Nat → Int) (hR : ∀ j, 0 ≤ R j ∧ R j ≤ 255) (n0 : Nat) (t0 t1 t2 t3 t4 t5 f0 f1 f2 f3 f4 f5 kd : Int) (hb : ebFixB R n0 t0 t1 t2 t3 t4 t5 f0 f1 f2 f3 f4 f5 kd) : @EntOK (ebFixV R hR n0 t0 t1 t2 t3 t4 t5 f0 f1 f2 f3 f4 f5 kd) Try.prog ebFixs1 := by
  letI : Env := ebFixV R hR n0 t0 t1 t2 t3 t4 t5 f0 f1 f2 f3 f4 f5 kd
  exact entShrV (k := .u64) (l := .u64) (a := kd) (c := (kd / 256)) (s := 8) rfl rfl rfl (by decide) (by exact fdiv_nat _ 256)
def ebFixs2 : Ent := .conv .u8 (.chan (some 15)) (.chan (some 16))
theorem ebFixs2_ok (R : Nat → Int) (hR : ∀ j, 0 ≤ R j ∧ R j ≤ 255) (n0 : Nat) (t0 t1 t2 t3 t4 t5 f0 f1 f2 f3 f4 f5 kd : Int) (hb : ebFixB R n0 t0 t1 t2 t3 t4 t5 f0 f1 f2 f3 f4 f5 kd) : @EntOK (ebFixV R hR n0 t0 t1 t2 t3 t4 t5 f0 f1 f2 f3 f4 f5 kd) Try.prog ebFixs2 := by
  letI : Env := ebFixV R hR n0 t0 t1 t2 t3 t4 t5 f0 f1 f2 f3 f4 f5 kd
  exact entConvV (k := .u8) (l := .u64) (a := (kd / 256)) (c := (kd / 256)) rfl rfl (by rw [IntWalk.u8_in _ (by first | omega | (simp only [sumVal, oct.sumF, oct.F, oct.ws]; omega))])
def ebFixs3 : Ent := .conv .u8 (.chan (some 14)) (.chan (some 17))
theorem ebFixs3_ok (R : Nat → Int) (hR : ∀ j, 0 ≤ R j ∧ R j ≤ 255) (n0 : Nat) (t0 t1 t2 t3 t4 t5 f0 f1 f2 f3 f4 f5 kd : Int) (hb : ebFixB R n0 t0 t1 t2 t3 t4 t5 f0 f1 f2 f3 f4 f5 kd) : @EntOK (ebFixV R hR n0 t0 t1 t2 t3 t4 t5 f0 f1 f2 f3 f4 f5 kd) Try.prog ebFixs3 := by
  letI : Env := ebFixV R hR n0 t0 t1 t2 t3 t4 t5 f0 f1 f2 f3 f4 f5 kd
  exact entConvV (k := .u8) (l := .u64) (a := kd) (c := (kd % 256)) rfl rfl (by rw [IntKind.wrap_u8])
def ebFixs4 : Ent := .conv .i64 (.chan (some 16)) (.chan (some 18))
theorem ebFixs4_ok (R : Nat → Int) (hR : ∀ j, 0 ≤ R j ∧ R j ≤ 255) (n0 : Nat) (t0 t1 t2 t3 t4 t5 f0 f1 f2 f3 f4 f5 kd : Int) (hb : ebFixB R n0 t0 t1 t2 t3 t4 t5 f0 f1 f2 f3 f4 f5 kd) : @EntOK (ebFixV R hR n0 t0 t1 t2 t3 t4 t5 f0 f1 f2 f3 f4 f5 kd) Try.prog ebFixs4 := by
  letI : Env := ebFixV R hR n0 t0 t1 t2 t3 t4 t5 f0 f1 f2 f3 f4 f5 kd
  exact entConvV (k := .i64) (l := .u8) (a := (kd / 256)) (c := (kd / 256)) rfl rfl (by rw [IntWalk.i64_in _ (by first | omega | (simp only [sumVal, oct.sumF, oct.F, oct.ws]; omega))])
def ebFixs5 : Ent := .bin .shl (.chan (some 18)) (.int .u64 8) (.chan (some 19))
theorem ebFixs5_ok (R : Nat → Int) (hR : ∀ j, 0 ≤ R j ∧ R j ≤ 255) (n0 : Nat) (t0 t1 t2 t3 t4 t5 f0 f1 f2 f3 f4 f5 kd : Int) (hb : ebFixB R n0 t0 t1 t2 t3 t4 t5 f0 f1 f2 f3 f4 f5 kd) : @EntOK (ebFixV R hR n0 t0 t1 t2 t3 t4 t5 f0 f1 f2 f3 f4 f5 kd) Try.prog ebFixs5 := by
  letI : Env := ebFixV R hR n0 t0 t1 t2 t3 t4 t5 f0 f1 f2 f3 f4 f5 kd
  exact entShlV (k := .i64) (l := .u64) (a := (kd / 256)) (c := ((kd / 256) * 256)) (s := 8) rfl rfl rfl (by decide) (by show IntKind.i64.wrap ((kd / 256) * 2 ^ 8) = ((kd / 256) * 256); rw [show ((2 : Int) ^ 8) = 256 from by decide, IntWalk.i64_in _ (by first | omega | (simp only [sumVal, oct.sumF, oct.F, oct.ws]; omega))])
def ebFixs6 : Ent := .conv .i64 (.chan (some 17)) (.chan (some 20))
theorem ebFixs6_ok (R : Nat → Int) (hR : ∀ j, 0 ≤ R j ∧ R j ≤ 255) (n0 : Nat) (t0 t1 t2 t3 t4 t5 f0 f1 f2 f3 f4 f5 kd : Int) (hb : ebFixB R n0 t0 t1 t2 t3 t4 t5 f0 f1 f2 f3 f4 f5 kd) : @EntOK (ebFixV R hR n0 t0 t1 t2 t3 t4 t5 f0 f1 f2 f3 f4 f5 kd) Try.prog ebFixs6 := by
  letI : Env := ebFixV R hR n0 t0 t1 t2 t3 t4 t5 f0 f1 f2 f3 f4 f5 kd
  exact entConvV (k := .i64) (l := .u8) (a := (kd % 256)) (c := (kd % 256)) rfl rfl (by rw [IntWalk.i64_in _ (by first | omega | (simp only [sumVal, oct.sumF, oct.F, oct.ws]; omega))])
def ebFixs7 : Ent := .bin .or (.chan (some 19)) (.chan (some 20)) (.chan (some 21))
theorem ebFixs7_ok (R : Nat → Int) (hR : ∀ j, 0 ≤ R j ∧ R j ≤ 255) (n0 : Nat) (t0 t1 t2 t3 t4 t5 f0 f1 f2 f3 f4 f5 kd : Int) (hb : ebFixB R n0 t0 t1 t2 t3 t4 t5 f0 f1 f2 f3 f4 f5 kd) : @EntOK (ebFixV R hR n0 t0 t1 t2 t3 t4 t5 f0 f1 f2 f3 f4 f5 kd) Try.prog ebFixs7 := by
  letI : Env := ebFixV R hR n0 t0 t1 t2 t3 t4 t5 f0 f1 f2 f3 f4 f5 kd
  exact entOrV (k := .i64) (a := ((kd / 256) * 256)) (b := (kd % 256)) (c := (((kd / 256) * 256) + (kd % 256))) rfl rfl rfl (by exact join_i64 (kd / 256) (kd % 256) 8 256 (by decide) (by first | omega | (simp only [sumVal, oct.sumF, oct.F, oct.ws]; omega)) (by first | omega | (simp only [sumVal, oct.sumF, oct.F, oct.ws]; omega)) (by first | omega | (simp only [sumVal, oct.sumF, oct.F, oct.ws]; omega)) (by first | omega | (simp only [sumVal, oct.sumF, oct.F, oct.ws]; omega)))
def ebFixs8 : Ent := .eqs true 23 [.chan (some 1), .chan (some 2), .chan (some 3), .chan (some 4), .chan (some 5), .chan (some 6)] [.chan (some 1), .chan (some 2), .chan (some 3), .chan (some 4), .chan (some 5), .chan (some 6)] false
theorem ebFixs8_ok (R : Nat → Int) (hR : ∀ j, 0 ≤ R j ∧ R j ≤ 255) (n0 : Nat) (t0 t1 t2 t3 t4 t5 f0 f1 f2 f3 f4 f5 kd : Int) (hb : ebFixB R n0 t0 t1 t2 t3 t4 t5 f0 f1 f2 f3 f4 f5 kd) : @EntOK (ebFixV R hR n0 t0 t1 t2 t3 t4 t5 f0 f1 f2 f3 f4 f5 kd) Try.prog ebFixs8 := by
  letI : Env := ebFixV R hR n0 t0 t1 t2 t3 t4 t5 f0 f1 f2 f3 f4 f5 kd
  exact ⟨by intro v hv; simp only [List.mem_cons, List.not_mem_nil, or_false] at hv; rcases hv with rfl | rfl | rfl | rfl | rfl | rfl <;> first | exact .inl ⟨_, _, rfl⟩ | exact .inr ⟨_, rfl⟩, by intro v hv; simp only [List.mem_cons, List.not_mem_nil, or_false] at hv; rcases hv with rfl | rfl | rfl | rfl | rfl | rfl <;> first | exact .inl ⟨_, _, rfl⟩ | exact .inr ⟨_, rfl⟩, by intro a1 a2 w; (first | (refine eqMACd _ _ _ _ _ _ _ _ _ _ _ _ _ ?_ a1 a2 w; exact decide_eq_true (by omega)) | (refine neMACt _ _ _ _ _ _ _ _ _ _ _ _ ?_ a1 a2 w; exact decide_eq_true (by omega)))⟩
def ebFixs9 : Ent := .eqs true 23 [.chan (some 7), .chan (some 8), .chan (some 9), .chan (some 10), .chan (some 11), .chan (some 12)] [.chan (some 7), .chan (some 8), .chan (some 9), .chan (some 10), .chan (some 11), .chan (some 12)] false
theorem ebFixs9_ok (R : Nat → Int) (hR : ∀ j, 0 ≤ R j ∧ R j ≤ 255) (n0 : Nat) (t0 t1 t2 t3 t4 t5 f0 f1 f2 f3 f4 f5 kd : Int) (hb : ebFixB R n0 t0 t1 t2 t3 t4 t5 f0 f1 f2 f3 f4 f5 kd) : @EntOK (ebFixV R hR n0 t0 t1 t2 t3 t4 t5 f0 f1 f2 f3 f4 f5 kd) Try.prog ebFixs9 := by
  letI : Env := ebFixV R hR n0 t0 t1 t2 t3 t4 t5 f0 f1 f2 f3 f4 f5 kd
  exact ⟨by intro v hv; simp only [List.mem_cons, List.not_mem_nil, or_false] at hv; rcases hv with rfl | rfl | rfl | rfl | rfl | rfl <;> first | exact .inl ⟨_, _, rfl⟩ | exact .inr ⟨_, rfl⟩, by intro v hv; simp only [List.mem_cons, List.not_mem_nil, or_false] at hv; rcases hv with rfl | rfl | rfl | rfl | rfl | rfl <;> first | exact .inl ⟨_, _, rfl⟩ | exact .inr ⟨_, rfl⟩, by intro a1 a2 w; (first | (refine eqMACd _ _ _ _ _ _ _ _ _ _ _ _ _ ?_ a1 a2 w; exact decide_eq_true (by omega)) | (refine neMACt _ _ _ _ _ _ _ _ _ _ _ _ ?_ a1 a2 w; exact decide_eq_true (by omega)))⟩
def ebFixs10 : Ent := .bin .neq (.chan (some 21)) (.chan (some 13)) (.bool false)
theorem ebFixs10_ok (R : Nat → Int) (hR : ∀ j, 0 ≤ R j ∧ R j ≤ 255) (n0 : Nat) (t0 t1 t2 t3 t4 t5 f0 f1 f2 f3 f4 f5 kd : Int) (hb : ebFixB R n0 t0 t1 t2 t3 t4 t5 f0 f1 f2 f3 f4 f5 kd) (hc : (((kd / 256) * 256) + (kd % 256)) = kd) : @EntOK (ebFixV R hR n0 t0 t1 t2 t3 t4 t5 f0 f1 f2 f3 f4 f5 kd) Try.prog ebFixs10 := by
  letI : Env := ebFixV R hR n0 t0 t1 t2 t3 t4 t5 f0 f1 f2 f3 f4 f5 kd
  exact entCmp (k := .i64) (a := (((kd / 256) * 256) + (kd % 256))) (b := kd) rfl rfl (by show some (((((kd / 256) * 256) + (kd % 256)) : Int) != kd) = some false; rw [bne_eq_false_iff_eq.2 (by first | omega | (simp only [sumVal, oct.sumF, oct.F, oct.ws]; omega))])
def ebFixs11 : Ent := .bin .neq (.chan (some 1048576)) (.chan (some 1048576)) (.bool false)
theorem ebFixs11_ok (R : Nat → Int) (hR : ∀ j, 0 ≤ R j ∧ R j ≤ 255) (n0 : Nat) (t0 t1 t2 t3 t4 t5 f0 f1 f2 f3 f4 f5 kd : Int) (hb : ebFixB R n0 t0 t1 t2 t3 t4 t5 f0 f1 f2 f3 f4 f5 kd) : @EntOK (ebFixV R hR n0 t0 t1 t2 t3 t4 t5 f0 f1 f2 f3 f4 f5 kd) Try.prog ebFixs11 := by
  letI : Env := ebFixV R hR n0 t0 t1 t2 t3 t4 t5 f0 f1 f2 f3 f4 f5 kd
  have rb1048576 := hR 1048576; exact entCmp (k := .u8) (a := (R 1048576)) (b := (R 1048576)) rfl rfl (by show some (((R 1048576) : Int) != (R 1048576)) = some false; rw [bne_eq_false_iff_eq.2 (by first | omega | (simp only [sumVal, oct.sumF, oct.F, oct.ws]; omega))])
def ebFixs12 : Ent := .bin .neq (.chan (some 1048577)) (.chan (some 1048577)) (.bool false)
theorem ebFixs12_ok (R : Nat → Int) (hR : ∀ j, 0 ≤ R j ∧ R j ≤ 255) (n0 : Nat) (t0 t1 t2 t3 t4 t5 f0 f1 f2 f3 f4 f5 kd : Int) (hb : ebFixB R n0 t0 t1 t2 t3 t4 t5 f0 f1 f2 f3 f4 f5 kd) : @EntOK (ebFixV R hR n0 t0 t1 t2 t3 t4 t5 f0 f1 f2 f3 f4 f5 kd) Try.prog ebFixs12 := by
  letI : Env := ebFixV R hR n0 t0 t1 t2 t3 t4 t5 f0 f1 f2 f3 f4 f5 kd
  have rb1048577 := hR 1048577; exact entCmp (k := .u8) (a := (R 1048577)) (b := (R 1048577)) rfl rfl (by show some (((R 1048577) : Int) != (R 1048577)) = some false; rw [bne_eq_false_iff_eq.2 (by first | omega | (simp only [sumVal, oct.sumF, oct.F, oct.ws]; omega))])
def ebFixs13 : Ent := .bin .neq (.chan (some 1048578)) (.chan (some 1048578)) (.bool false)
theorem ebFixs13_ok (R : Nat → Int) (hR : ∀ j, 0 ≤ R j ∧ R j ≤ 255) (n0 : Nat) (t0 t1 t2 t3 t4 t5 f0 f1 f2 f3 f4 f5 kd : Int) (hb : ebFixB R n0 t0 t1 t2 t3 t4 t5 f0 f1 f2 f3 f4 f5 kd) : @EntOK (ebFixV R hR n0 t0 t1 t2 t3 t4 t5 f0 f1 f2 f3 f4 f5 kd) Try.prog ebFixs13 := by
  letI : Env := ebFixV R hR n0 t0 t1 t2 t3 t4 t5 f0 f1 f2 f3 f4 f5 kd
  have rb1048578 := hR 1048578; exact entCmp (k := .u8) (a := (R 1048578)) (b := (R 1048578)) rfl rfl (by show some (((R 1048578) : Int) != (R 1048578)) = some false; rw [bne_eq_false_iff_eq.2 (by first | omega | (simp only [sumVal, oct.sumF, oct.F, oct.ws]; omega))])
def ebFixs14 : Ent := .bin .neq (.chan (some 1048579)) (.chan (some 1048579)) (.bool false)
theorem ebFixs14_ok (R : Nat → Int) (hR : ∀ j, 0 ≤ R j ∧ R j ≤ 255) (n0 : Nat) (t0 t1 t2 t3 t4 t5 f0 f1 f2 f3 f4 f5 kd : Int) (hb : ebFixB R n0 t0 t1 t2 t3 t4 t5 f0 f1 f2 f3 f4 f5 kd) : @EntOK (ebFixV R hR n0 t0 t1 t2 t3 t4 t5 f0 f1 f2 f3 f4 f5 kd) Try.prog ebFixs14 := by
  letI : Env := ebFixV R hR n0 t0 t1 t2 t3 t4 t5 f0 f1 f2 f3 f4 f5 kd
  have rb1048579 := hR 1048579; exact entCmp (k := .u8) (a := (R 1048579)) (b := (R 1048579)) rfl rfl (by show some (((R 1048579) : Int) != (R 1048579)) = some false; rw [bne_eq_false_iff_eq.2 (by first | omega | (simp only [sumVal, oct.sumF, oct.F, oct.ws]; omega))])
def ebFixs15 : Ent := .bin .neq (.chan (some 1048580)) (.chan (some 1048580)) (.bool false)
theorem ebFixs15_ok (R : Nat → Int) (hR : ∀ j, 0 ≤ R j ∧ R j ≤ 255) (n0 : Nat) (t0 t1 t2 t3 t4 t5 f0 f1 f2 f3 f4 f5 kd : Int) (hb : ebFixB R n0 t0 t1 t2 t3 t4 t5 f0 f1 f2 f3 f4 f5 kd) : @EntOK (ebFixV R hR n0 t0 t1 t2 t3 t4 t5 f0 f1 f2 f3 f4 f5 kd) Try.prog ebFixs15 := by
  letI : Env := ebFixV R hR n0 t0 t1 t2 t3 t4 t5 f0 f1 f2 f3 f4 f5 kd
  have rb1048580 := hR 1048580; exact entCmp (k := .u8) (a := (R 1048580)) (b := (R 1048580)) rfl rfl (by show some (((R 1048580) : Int) != (R 1048580)) = some false; rw [bne_eq_false_iff_eq.2 (by first | omega | (simp only [sumVal, oct.sumF, oct.F, oct.ws]; omega))])
def ebFixs16 : Ent := .bin .neq (.chan (some 1048581)) (.chan (some 1048581)) (.bool false)
theorem ebFixs16_ok (R : Nat → Int) (hR : ∀ j, 0 ≤ R j ∧ R j ≤ 255) (n0 : Nat) (t0 t1 t2 t3 t4 t5 f0 f1 f2 f3 f4 f5 kd : Int) (hb : ebFixB R n0 t0 t1 t2 t3 t4 t5 f0 f1 f2 f3 f4 f5 kd) : @EntOK (ebFixV R hR n0 t0 t1 t2 t3 t4 t5 f0 f1 f2 f3 f4 f5 kd) Try.prog ebFixs16 := by
  letI : Env := ebFixV R hR n0 t0 t1 t2 t3 t4 t5 f0 f1 f2 f3 f4 f5 kd
  have rb1048581 := hR 1048581; exact entCmp (k := .u8) (a := (R 1048581)) (b := (R 1048581)) rfl rfl (by show some (((R 1048581) : Int) != (R 1048581)) = some false; rw [bne_eq_false_iff_eq.2 (by first | omega | (simp only [sumVal, oct.sumF, oct.F, oct.ws]; omega))])
def ebFixs17 : Ent := .bin .neq (.chan (some 1048582)) (.chan (some 1048582)) (.bool false)
theorem ebFixs17_ok (R : Nat → Int) (hR : ∀ j, 0 ≤ R j ∧ R j ≤ 255) (n0 : Nat) (t0 t1 t2 t3 t4 t5 f0 f1 f2 f3 f4 f5 kd : Int) (hb : ebFixB R n0 t0 t1 t2 t3 t4 t5 f0 f1 f2 f3 f4 f5 kd) : @EntOK (ebFixV R hR n0 t0 t1 t2 t3 t4 t5 f0 f1 f2 f3 f4 f5 kd) Try.prog ebFixs17 := by
  letI : Env := ebFixV R hR n0 t0 t1 t2 t3 t4 t5 f0 f1 f2 f3 f4 f5 kd
  have rb1048582 := hR 1048582; exact entCmp (k := .u8) (a := (R 1048582)) (b := (R 1048582)) rfl rfl (by show some (((R 1048582) : Int) != (R 1048582)) = some false; rw [bne_eq_false_iff_eq.2 (by first | omega | (simp only [sumVal, oct.sumF, oct.F, oct.ws]; omega))])
def ebFixs18 : Ent := .bin .neq (.chan (some 1048583)) (.chan (some 1048583)) (.bool false)
theorem ebFixs18_ok (R : Nat → Int) (hR : ∀ j, 0 ≤ R j ∧ R j ≤ 255) (n0 : Nat) (t0 t1 t2 t3 t4 t5 f0 f1 f2 f3 f4 f5 kd : Int) (hb : ebFixB R n0 t0 t1 t2 t3 t4 t5 f0 f1 f2 f3 f4 f5 kd) : @EntOK (ebFixV R hR n0 t0 t1 t2 t3 t4 t5 f0 f1 f2 f3 f4 f5 kd) Try.prog ebFixs18 := by
  letI : Env := ebFixV R hR n0 t0 t1 t2 t3 t4 t5 f0 f1 f2 f3 f4 f5 kd
  have rb1048583 := hR 1048583; exact entCmp (k := .u8) (a := (R 1048583)) (b := (R 1048583)) rfl rfl (by show some (((R 1048583) : Int) != (R 1048583)) = some false; rw [bne_eq_false_iff_eq.2 (by first | omega | (simp only [sumVal, oct.sumF, oct.F, oct.ws]; omega))])
def ebFixs19 : Ent := .bin .neq (.chan (some 1048584)) (.chan (some 1048584)) (.bool false)
theorem ebFixs19_ok (R : Nat → Int) (hR : ∀ j, 0 ≤ R j ∧ R j ≤ 255) (n0 : Nat) (t0 t1 t2 t3 t4 t5 f0 f1 f2 f3 f4 f5 kd : Int) (hb : ebFixB R n0 t0 t1 t2 t3 t4 t5 f0 f1 f2 f3 f4 f5 kd) : @EntOK (ebFixV R hR n0 t0 t1 t2 t3 t4 t5 f0 f1 f2 f3 f4 f5 kd) Try.prog ebFixs19 := by
  letI : Env := ebFixV R hR n0 t0 t1 t2 t3 t4 t5 f0 f1 f2 f3 f4 f5 kd
  have rb1048584 := hR 1048584; exact entCmp (k := .u8) (a := (R 1048584)) (b := (R 1048584)) rfl rfl (by show some (((R 1048584) : Int) != (R 1048584)) = some false; rw [bne_eq_false_iff_eq.2 (by first | omega | (simp only [sumVal, oct.sumF, oct.F, oct.ws]; omega))])
def ebFixs20 : Ent := .bin .neq (.chan (some 1048585)) (.chan (some 1048585)) (.bool false)
theorem ebFixs20_ok (R : Nat → Int) (hR : ∀ j, 0 ≤ R j ∧ R j ≤ 255) (n0 : Nat) (t0 t1 t2 t3 t4 t5 f0 f1 f2 f3 f4 f5 kd : Int) (hb : ebFixB R n0 t0 t1 t2 t3 t4 t5 f0 f1 f2 f3 f4 f5 kd) : @EntOK (ebFixV R hR n0 t0 t1 t2 t3 t4 t5 f0 f1 f2 f3 f4 f5 kd) Try.prog ebFixs20 := by
  letI : Env := ebFixV R hR n0 t0 t1 t2 t3 t4 t5 f0 f1 f2 f3 f4 f5 kd
  have rb1048585 := hR 1048585; exact entCmp (k := .u8) (a := (R 1048585)) (b := (R 1048585)) rfl rfl (by show some (((R 1048585) : Int) != (R 1048585)) = some false; rw [bne_eq_false_iff_eq.2 (by first | omega | (simp only [sumVal, oct.sumF, oct.F, oct.ws]; omega))])
def ebFixs21 : Ent := .bin .neq (.chan (some 1048586)) (.chan (some 1048586)) (.bool false)
theorem ebFixs21_ok (R : Nat → Int) (hR : ∀ j, 0 ≤ R j ∧ R j ≤ 255) (n0 : Nat) (t0 t1 t2 t3 t4 t5 f0 f1 f2 f3 f4 f5 kd : Int) (hb : ebFixB R n0 t0 t1 t2 t3 t4 t5 f0 f1 f2 f3 f4 f5 kd) : @EntOK (ebFixV R hR n0 t0 t1 t2 t3 t4 t5 f0 f1 f2 f3 f4 f5 kd) Try.prog ebFixs21 := by
  letI : Env := ebFixV R hR n0 t0 t1 t2 t3 t4 t5 f0 f1 f2 f3 f4 f5 kd
  have rb1048586 := hR 1048586; exact entCmp (k := .u8) (a := (R 1048586)) (b := (R 1048586)) rfl rfl (by show some (((R 1048586) : Int) != (R 1048586)) = some false; rw [bne_eq_false_iff_eq.2 (by first | omega | (simp only [sumVal, oct.sumF, oct.F, oct.ws]; omega))])
def ebFixs22 : Ent := .bin .neq (.chan (some 1048587)) (.chan (some 1048587)) (.bool false)
theorem ebFixs22_ok (R : Nat → Int) (hR : ∀ j, 0 ≤ R j ∧ R j ≤ 255) (n0 : Nat) (t0 t1 t2 t3 t4 t5 f0 f1 f2 f3 f4 f5 kd : Int) (hb : ebFixB R n0 t0 t1 t2 t3 t4 t5 f0 f1 f2 f3 f4 f5 kd) : @EntOK (ebFixV R hR n0 t0 t1 t2 t3 t4 t5 f0 f1 f2 f3 f4 f5 kd) Try.prog ebFixs22 := by
  letI : Env := ebFixV R hR n0 t0 t1 t2 t3 t4 t5 f0 f1 f2 f3 f4 f5 kd
  have rb1048587 := hR 1048587; exact entCmp (k := .u8) (a := (R 1048587)) (b := (R 1048587)) rfl rfl (by show some (((R 1048587) : Int) != (R 1048587)) = some false; rw [bne_eq_false_iff_eq.2 (by first | omega | (simp only [sumVal, oct.sumF, oct.F, oct.ws]; omega))])
def ebFixs23 : Ent := .bin .neq (.chan (some 1048588)) (.chan (some 1048588)) (.bool false)
theorem ebFixs23_ok (R : Nat → Int) (hR : ∀ j, 0 ≤ R j ∧ R j ≤ 255) (n0 : Nat) (t0 t1 t2 t3 t4 t5 f0 f1 f2 f3 f4 f5 kd : Int) (hb : ebFixB R n0 t0 t1 t2 t3 t4 t5 f0 f1 f2 f3 f4 f5 kd) : @EntOK (ebFixV R hR n0 t0 t1 t2 t3 t4 t5 f0 f1 f2 f3 f4 f5 kd) Try.prog ebFixs23 := by
  letI : Env := ebFixV R hR n0 t0 t1 t2 t3 t4 t5 f0 f1 f2 f3 f4 f5 kd
  have rb1048588 := hR 1048588; exact entCmp (k := .u8) (a := (R 1048588)) (b := (R 1048588)) rfl rfl (by show some (((R 1048588) : Int) != (R 1048588)) = some false; rw [bne_eq_false_iff_eq.2 (by first | omega | (simp only [sumVal, oct.sumF, oct.F, oct.ws]; omega))])
def ebFixs24 : Ent := .bin .neq (.chan (some 1048589)) (.chan (some 1048589)) (.bool false)
theorem ebFixs24_ok (R : Nat → Int) (hR : ∀ j, 0 ≤ R j ∧ R j ≤ 255) (n0 : Nat) (t0 t1 t2 t3 t4 t5 f0 f1 f2 f3 f4 f5 kd : Int) (hb : ebFixB R n0 t0 t1 t2 t3 t4 t5 f0 f1 f2 f3 f4 f5 kd) : @EntOK (ebFixV R hR n0 t0 t1 t2 t3 t4 t5 f0 f1 f2 f3 f4 f5 kd) Try.prog ebFixs24 := by
  letI : Env := ebFixV R hR n0 t0 t1 t2 t3 t4 t5 f0 f1 f2 f3 f4 f5 kd
  have rb1048589 := hR 1048589; exact entCmp (k := .u8) (a := (R 1048589)) (b := (R 1048589)) rfl rfl (by show some (((R 1048589) : Int) != (R 1048589)) = some false; rw [bne_eq_false_iff_eq.2 (by first | omega | (simp only [sumVal, oct.sumF, oct.F, oct.ws]; omega))])
def ebFixs25 : Ent := .bin .neq (.chan (some 1048590)) (.chan (some 1048590)) (.bool false)
theorem ebFixs25_ok (R : Nat → Int) (hR : ∀ j, 0 ≤ R j ∧ R j ≤ 255) (n0 : Nat) (t0 t1 t2 t3 t4 t5 f0 f1 f2 f3 f4 f5 kd : Int) (hb : ebFixB R n0 t0 t1 t2 t3 t4 t5 f0 f1 f2 f3 f4 f5 kd) : @EntOK (ebFixV R hR n0 t0 t1 t2 t3 t4 t5 f0 f1 f2 f3 f4 f5 kd) Try.prog ebFixs25 := by
  letI : Env := ebFixV R hR n0 t0 t1 t2 t3 t4 t5 f0 f1 f2 f3 f4 f5 kd
  have rb1048590 := hR 1048590; exact entCmp (k := .u8) (a := (R 1048590)) (b := (R 1048590)) rfl rfl (by show some (((R 1048590) : Int) != (R 1048590)) = some false; rw [bne_eq_false_iff_eq.2 (by first | omega | (simp only [sumVal, oct.sumF, oct.F, oct.ws]; omega))])
def ebFixs26 : Ent := .bin .neq (.chan (some 1048591)) (.chan (some 1048591)) (.bool false)
theorem ebFixs26_ok (R : Nat → Int) (hR : ∀ j, 0 ≤ R j ∧ R j ≤ 255) (n0 : Nat) (t0 t1 t2 t3 t4 t5 f0 f1 f2 f3 f4 f5 kd : Int) (hb : ebFixB R n0 t0 t1 t2 t3 t4 t5 f0 f1 f2 f3 f4 f5 kd) : @EntOK (ebFixV R hR n0 t0 t1 t2 t3 t4 t5 f0 f1 f2 f3 f4 f5 kd) Try.prog ebFixs26 := by
  letI : Env := ebFixV R hR n0 t0 t1 t2 t3 t4 t5 f0 f1 f2 f3 f4 f5 kd
  have rb1048591 := hR 1048591; exact entCmp (k := .u8) (a := (R 1048591)) (b := (R 1048591)) rfl rfl (by show some (((R 1048591) : Int) != (R 1048591)) = some false; rw [bne_eq_false_iff_eq.2 (by first | omega | (simp only [sumVal, oct.sumF, oct.F, oct.ws]; omega))])
def ebFixs27 : Ent := .bin .neq (.chan (some 1048592)) (.chan (some 1048592)) (.bool false)
theorem ebFixs27_ok (R : Nat → Int) (hR : ∀ j, 0 ≤ R j ∧ R j ≤ 255) (n0 : Nat) (t0 t1 t2 t3 t4 t5 f0 f1 f2 f3 f4 f5 kd : Int) (hb : ebFixB R n0 t0 t1 t2 t3 t4 t5 f0 f1 f2 f3 f4 f5 kd) : @EntOK (ebFixV R hR n0 t0 t1 t2 t3 t4 t5 f0 f1 f2 f3 f4 f5 kd) Try.prog ebFixs27 := by
  letI : Env := ebFixV R hR n0 t0 t1 t2 t3 t4 t5 f0 f1 f2 f3 f4 f5 kd
  have rb1048592 := hR 1048592; exact entCmp (k := .u8) (a := (R 1048592)) (b := (R 1048592)) rfl rfl (by show some (((R 1048592) : Int) != (R 1048592)) = some false; rw [bne_eq_false_iff_eq.2 (by first | omega | (simp only [sumVal, oct.sumF, oct.F, oct.ws]; omega))])
def ebFixs28 : Ent := .bin .neq (.chan (some 1048593)) (.chan (some 1048593)) (.bool false)
theorem ebFixs28_ok (R : Nat → Int) (hR : ∀ j, 0 ≤ R j ∧ R j ≤ 255) (n0 : Nat) (t0 t1 t2 t3 t4 t5 f0 f1 f2 f3 f4 f5 kd : Int) (hb : ebFixB R n0 t0 t1 t2 t3 t4 t5 f0 f1 f2 f3 f4 f5 kd) : @EntOK (ebFixV R hR n0 t0 t1 t2 t3 t4 t5 f0 f1 f2 f3 f4 f5 kd) Try.prog ebFixs28 := by
  letI : Env := ebFixV R hR n0 t0 t1 t2 t3 t4 t5 f0 f1 f2 f3 f4 f5 kd
  have rb1048593 := hR 1048593; exact entCmp (k := .u8) (a := (R 1048593)) (b := (R 1048593)) rfl rfl (by show some (((R 1048593) : Int) != (R 1048593)) = some false; rw [bne_eq_false_iff_eq.2 (by first | omega | (simp only [sumVal, oct.sumF, oct.F, oct.ws]; omega))])
def ebFixs29 : Ent := .bin .neq (.chan (some 1048594)) (.chan (some 1048594)) (.bool false)
theorem ebFixs29_ok (R : Nat → Int) (hR : ∀ j, 0 ≤ R j ∧ R j ≤ 255) (n0 : Nat) (t0 t1 t2 t3 t4 t5 f0 f1 f2 f3 f4 f5 kd : Int) (hb : ebFixB R n0 t0 t1 t2 t3 t4 t5 f0 f1 f2 f3 f4 f5 kd) : @EntOK (ebFixV R hR n0 t0 t1 t2 t3 t4 t5 f0 f1 f2 f3 f4 f5 kd) Try.prog ebFixs29 := by
  letI : Env := ebFixV R hR n0 t0 t1 t2 t3 t4 t5 f0 f1 f2 f3 f4 f5 kd
  have rb1048594 := hR 1048594; exact entCmp (k := .u8) (a := (R 1048594)) (b := (R 1048594)) rfl rfl (by show some (((R 1048594) : Int) != (R 1048594)) = some false; rw [bne_eq_false_iff_eq.2 (by first | omega | (simp only [sumVal, oct.sumF, oct.F, oct.ws]; omega))])
def ebFixs30 : Ent := .bin .neq (.chan (some 1048595)) (.chan (some 1048595)) (.bool false)
theorem ebFixs30_ok (R : Nat → Int) (hR : ∀ j, 0 ≤ R j ∧ R j ≤ 255) (n0 : Nat) (t0 t1 t2 t3 t4 t5 f0 f1 f2 f3 f4 f5 kd : Int) (hb : ebFixB R n0 t0 t1 t2 t3 t4 t5 f0 f1 f2 f3 f4 f5 kd) : @EntOK (ebFixV R hR n0 t0 t1 t2 t3 t4 t5 f0 f1 f2 f3 f4 f5 kd) Try.prog ebFixs30 := by
  letI : Env := ebFixV R hR n0 t0 t1 t2 t3 t4 t5 f0 f1 f2 f3 f4 f5 kd
  have rb1048595 := hR 1048595; exact entCmp (k := .u8) (a := (R 1048595)) (b := (R 1048595)) rfl rfl (by show some (((R 1048595) : Int) != (R 1048595)) = some false; rw [bne_eq_false_iff_eq.2 (by first | omega | (simp only [sumVal, oct.sumF, oct.F, oct.ws]; omega))])
def ebFixs31 : Ent := .bin .neq (.chan (some 1048596)) (.chan (some 1048596)) (.bool false)
theorem ebFixs31_ok (R : Nat → Int) (hR : ∀ j, 0 ≤ R j ∧ R j ≤ 255) (n0 : Nat) (t0 t1 t2 t3 t4 t5 f0 f1 f2 f3 f4 f5 kd : Int) (hb : ebFixB R n0 t0 t1 t2 t3 t4 t5 f0 f1 f2 f3 f4 f5 kd) : @EntOK (ebFixV R hR n0 t0 t1 t2 t3 t4 t5 f0 f1 f2 f3 f4 f5 kd) Try.prog ebFixs31 := by
  letI : Env := ebFixV R hR n0 t0 t1 t2 t3 t4 t5 f0 f1 f2 f3 f4 f5 kd
  have rb1048596 := hR 1048596; exact entCmp (k := .u8) (a := (R 1048596)) (b := (R 1048596)) rfl rfl (by show some (((R 1048596) : Int) != (R 1048596)) = some false; rw [bne_eq_false_iff_eq.2 (by first | omega | (simp only [sumVal, oct.sumF, oct.F, oct.ws]; omega))])
def ebFixs32 : Ent := .bin .neq (.chan (some 1048597)) (.chan (some 1048597)) (.bool false)
theorem ebFixs32_ok (R : Nat → Int) (hR : ∀ j, 0 ≤ R j ∧ R j ≤ 255) (n0 : Nat) (t0 t1 t2 t3 t4 t5 f0 f1 f2 f3 f4 f5 kd : Int) (hb : ebFixB R n0 t0 t1 t2 t3 t4 t5 f0 f1 f2 f3 f4 f5 kd) : @EntOK (ebFixV R hR n0 t0 t1 t2 t3 t4 t5 f0 f1 f2 f3 f4 f5 kd) Try.prog ebFixs32 := by
  letI : Env := ebFixV R hR n0 t0 t1 t2 t3 t4 t5 f0 f1 f2 f3 f4 f5 kd
  have rb1048597 := hR 1048597; exact entCmp (k := .u8) (a := (R 1048597)) (b := (R 1048597)) rfl rfl (by show some (((R 1048597) : Int) != (R 1048597)) = some false; rw [bne_eq_false_iff_eq.2 (by first | omega | (simp only [sumVal, oct.sumF, oct.F, oct.ws]; omega))])
def ebFixs33 : Ent := .bin .neq (.chan (some 1048598)) (.chan (some 1048598)) (.bool false)
theorem ebFixs33_ok (R : Nat → Int) (hR : ∀ j, 0 ≤ R j ∧ R j ≤ 255) (n0 : Nat) (t0 t1 t2 t3 t4 t5 f0 f1 f2 f3 f4 f5 kd : Int) (hb : ebFixB R n0 t0 t1 t2 t3 t4 t5 f0 f1 f2 f3 f4 f5 kd) : @EntOK (ebFixV R hR n0 t0 t1 t2 t3 t4 t5 f0 f1 f2 f3 f4 f5 kd) Try.prog ebFixs33 := by
  letI : Env := ebFixV R hR n0 t0 t1 t2 t3 t4 t5 f0 f1 f2 f3 f4 f5 kd
  have rb1048598 := hR 1048598; exact entCmp (k := .u8) (a := (R 1048598)) (b := (R 1048598)) rfl rfl (by show some (((R 1048598) : Int) != (R 1048598)) = some false; rw [bne_eq_false_iff_eq.2 (by first | omega | (simp only [sumVal, oct.sumF, oct.F, oct.ws]; omega))])
def ebFixs34 : Ent := .bin .neq (.chan (some 1048599)) (.chan (some 1048599)) (.bool false)
theorem ebFixs34_ok (R : Nat → Int) (hR : ∀ j, 0 ≤ R j ∧ R j ≤ 255) (n0 : Nat) (t0 t1 t2 t3 t4 t5 f0 f1 f2 f3 f4 f5 kd : Int) (hb : ebFixB R n0 t0 t1 t2 t3 t4 t5 f0 f1 f2 f3 f4 f5 kd) : @EntOK (ebFixV R hR n0 t0 t1 t2 t3 t4 t5 f0 f1 f2 f3 f4 f5 kd) Try.prog ebFixs34 := by
  letI : Env := ebFixV R hR n0 t0 t1 t2 t3 t4 t5 f0 f1 f2 f3 f4 f5 kd
  have rb1048599 := hR 1048599; exact entCmp (k := .u8) (a := (R 1048599)) (b := (R 1048599)) rfl rfl (by show some (((R 1048599) : Int) != (R 1048599)) = some false; rw [bne_eq_false_iff_eq.2 (by first | omega | (simp only [sumVal, oct.sumF, oct.F, oct.ws]; omega))])
def ebFixs35 : Ent := .bin .neq (.chan (some 1048600)) (.chan (some 1048600)) (.bool false)
theorem ebFixs35_ok (R : Nat → Int) (hR : ∀ j, 0 ≤ R j ∧ R j ≤ 255) (n0 : Nat) (t0 t1 t2 t3 t4 t5 f0 f1 f2 f3 f4 f5 kd : Int) (hb : ebFixB R n0 t0 t1 t2 t3 t4 t5 f0 f1 f2 f3 f4 f5 kd) : @EntOK (ebFixV R hR n0 t0 t1 t2 t3 t4 t5 f0 f1 f2 f3 f4 f5 kd) Try.prog ebFixs35 := by
  letI : Env := ebFixV R hR n0 t0 t1 t2 t3 t4 t5 f0 f1 f2 f3 f4 f5 kd
  have rb1048600 := hR 1048600; exact entCmp (k := .u8) (a := (R 1048600)) (b := (R 1048600)) rfl rfl (by show some (((R 1048600) : Int) != (R 1048600)) = some false; rw [bne_eq_false_iff_eq.2 (by first | omega | (simp only [sumVal, oct.sumF, oct.F, oct.ws]; omega))])
def ebFixs36 : Ent := .bin .neq (.chan (some 1048601)) (.chan (some 1048601)) (.bool false)
theorem ebFixs36_ok (R : Nat → Int) (hR : ∀ j, 0 ≤ R j ∧ R j ≤ 255) (n0 : Nat) (t0 t1 t2 t3 t4 t5 f0 f1 f2 f3 f4 f5 kd : Int) (hb : ebFixB R n0 t0 t1 t2 t3 t4 t5 f0 f1 f2 f3 f4 f5 kd) : @EntOK (ebFixV R hR n0 t0 t1 t2 t3 t4 t5 f0 f1 f2 f3 f4 f5 kd) Try.prog ebFixs36 := by
  letI : Env := ebFixV R hR n0 t0 t1 t2 t3 t4 t5 f0 f1 f2 f3 f4 f5 kd
  have rb1048601 := hR 1048601; exact entCmp (k := .u8) (a := (R 1048601)) (b := (R 1048601)) rfl rfl (by show some (((R 1048601) : Int) != (R 1048601)) = some false; rw [bne_eq_false_iff_eq.2 (by first | omega | (simp only [sumVal, oct.sumF, oct.F, oct.ws]; omega))])
def ebFixs37 : Ent := .bin .neq (.chan (some 1048602)) (.chan (some 1048602)) (.bool false)
theorem ebFixs37_ok (R : Nat → Int) (hR : ∀ j, 0 ≤ R j ∧ R j ≤ 255) (n0 : Nat) (t0 t1 t2 t3 t4 t5 f0 f1 f2 f3 f4 f5 kd : Int) (hb : ebFixB R n0 t0 t1 t2 t3 t4 t5 f0 f1 f2 f3 f4 f5 kd) : @EntOK (ebFixV R hR n0 t0 t1 t2 t3 t4 t5 f0 f1 f2 f3 f4 f5 kd) Try.prog ebFixs37 := by
  letI : Env := ebFixV R hR n0 t0 t1 t2 t3 t4 t5 f0 f1 f2 f3 f4 f5 kd
  have rb1048602 := hR 1048602; exact entCmp (k := .u8) (a := (R 1048602)) (b := (R 1048602)) rfl rfl (by show some (((R 1048602) : Int) != (R 1048602)) = some false; rw [bne_eq_false_iff_eq.2 (by first | omega | (simp only [sumVal, oct.sumF, oct.F, oct.ws]; omega))])
def ebFixs38 : Ent := .bin .neq (.chan (some 1048603)) (.chan (some 1048603)) (.bool false)
theorem ebFixs38_ok (R : Nat → Int) (hR : ∀ j, 0 ≤ R j ∧ R j ≤ 255) (n0 : Nat) (t0 t1 t2 t3 t4 t5 f0 f1 f2 f3 f4 f5 kd : Int) (hb : ebFixB R n0 t0 t1 t2 t3 t4 t5 f0 f1 f2 f3 f4 f5 kd) : @EntOK (ebFixV R hR n0 t0 t1 t2 t3 t4 t5 f0 f1 f2 f3 f4 f5 kd) Try.prog ebFixs38 := by
  letI : Env := ebFixV R hR n0 t0 t1 t2 t3 t4 t5 f0 f1 f2 f3 f4 f5 kd
  have rb1048603 := hR 1048603; exact entCmp (k := .u8) (a := (R 1048603)) (b := (R 1048603)) rfl rfl (by show some (((R 1048603) : Int) != (R 1048603)) = some false; rw [bne_eq_false_iff_eq.2 (by first | omega | (simp only [sumVal, oct.sumF, oct.F, oct.ws]; omega))])
def ebFixs39 : Ent := .bin .neq (.chan (some 1048604)) (.chan (some 1048604)) (.bool false)
theorem ebFixs39_ok (R : Nat → Int) (hR : ∀ j, 0 ≤ R j ∧ R j ≤ 255) (n0 : Nat) (t0 t1 t2 t3 t4 t5 f0 f1 f2 f3 f4 f5 kd : Int) (hb : ebFixB R n0 t0 t1 t2 t3 t4 t5 f0 f1 f2 f3 f4 f5 kd) : @EntOK (ebFixV R hR n0 t0 t1 t2 t3 t4 t5 f0 f1 f2 f3 f4 f5 kd) Try.prog ebFixs39 := by
  letI : Env := ebFixV R hR n0 t0 t1 t2 t3 t4 t5 f0 f1 f2 f3 f4 f5 kd
  have rb1048604 := hR 1048604; exact entCmp (k := .u8) (a := (R 1048604)) (b := (R 1048604)) rfl rfl (by show some (((R 1048604) : Int) != (R 1048604)) = some false; rw [bne_eq_false_iff_eq.2 (by first | omega | (simp only [sumVal, oct.sumF, oct.F, oct.ws]; omega))])
def ebFixs40 : Ent := .bin .neq (.chan (some 1048605)) (.chan (some 1048605)) (.bool false)
theorem ebFixs40_ok (R : Nat → Int) (hR : ∀ j, 0 ≤ R j ∧ R j ≤ 255) (n0 : Nat) (t0 t1 t2 t3 t4 t5 f0 f1 f2 f3 f4 f5 kd : Int) (hb : ebFixB R n0 t0 t1 t2 t3 t4 t5 f0 f1 f2 f3 f4 f5 kd) : @EntOK (ebFixV R hR n0 t0 t1 t2 t3 t4 t5 f0 f1 f2 f3 f4 f5 kd) Try.prog ebFixs40 := by
  letI : Env := ebFixV R hR n0 t0 t1 t2 t3 t4 t5 f0 f1 f2 f3 f4 f5 kd
  have rb1048605 := hR 1048605; exact entCmp (k := .u8) (a := (R 1048605)) (b := (R 1048605)) rfl rfl (by show some (((R 1048605) : Int) != (R 1048605)) = some false; rw [bne_eq_false_iff_eq.2 (by first | omega | (simp only [sumVal, oct.sumF, oct.F, oct.ws]; omega))])
def ebFixs41 : Ent := .bin .neq (.chan (some 1048606)) (.chan (some 1048606)) (.bool false)
theorem ebFixs41_ok (R : Nat → Int) (hR : ∀ j, 0 ≤ R j ∧ R j ≤ 255) (n0 : Nat) (t0 t1 t2 t3 t4 t5 f0 f1 f2 f3 f4 f5 kd : Int) (hb : ebFixB R n0 t0 t1 t2 t3 t4 t5 f0 f1 f2 f3 f4 f5 kd) : @EntOK (ebFixV R hR n0 t0 t1 t2 t3 t4 t5 f0 f1 f2 f3 f4 f5 kd) Try.prog ebFixs41 := by
  letI : Env := ebFixV R hR n0 t0 t1 t2 t3 t4 t5 f0 f1 f2 f3 f4 f5 kd
  have rb1048606 := hR 1048606; exact entCmp (k := .u8) (a := (R 1048606)) (b := (R 1048606)) rfl rfl (by show some (((R 1048606) : Int) != (R 1048606)) = some false; rw [bne_eq_false_iff_eq.2 (by first | omega | (simp only [sumVal, oct.sumF, oct.F, oct.ws]; omega))])
def ebFixs42 : Ent := .bin .neq (.chan (some 1048607)) (.chan (some 1048607)) (.bool false)
theorem ebFixs42_ok (R : Nat → Int) (hR : ∀ j, 0 ≤ R j ∧ R j ≤ 255) (n0 : Nat) (t0 t1 t2 t3 t4 t5 f0 f1 f2 f3 f4 f5 kd : Int) (hb : ebFixB R n0 t0 t1 t2 t3 t4 t5 f0 f1 f2 f3 f4 f5 kd) : @EntOK (ebFixV R hR n0 t0 t1 t2 t3 t4 t5 f0 f1 f2 f3 f4 f5 kd) Try.prog ebFixs42 := by
  letI : Env := ebFixV R hR n0 t0 t1 t2 t3 t4 t5 f0 f1 f2 f3 f4 f5 kd
  have rb1048607 := hR 1048607; exact entCmp (k := .u8) (a := (R 1048607)) (b := (R 1048607)) rfl rfl (by show some (((R 1048607) : Int) != (R 1048607)) = some false; rw [bne_eq_false_iff_eq.2 (by first | omega | (simp only [sumVal, oct.sumF, oct.F, oct.ws]; omega))])
def ebFixs43 : Ent := .bin .neq (.chan (some 1048608)) (.chan (some 1048608)) (.bool false)
theorem ebFixs43_ok (R : Nat → Int) (hR : ∀ j, 0 ≤ R j ∧ R j ≤ 255) (n0 : Nat) (t0 t1 t2 t3 t4 t5 f0 f1 f2 f3 f4 f5 kd : Int) (hb : ebFixB R n0 t0 t1 t2 t3 t4 t5 f0 f1 f2 f3 f4 f5 kd) : @EntOK (ebFixV R hR n0 t0 t1 t2 t3 t4 t5 f0 f1 f2 f3 f4 f5 kd) Try.prog ebFixs43 := by
  letI : Env := ebFixV R hR n0 t0 t1 t2 t3 t4 t5 f0 f1 f2 f3 f4 f5 kd
  have rb1048608 := hR 1048608; exact entCmp (k := .u8) (a := (R 1048608)) (b := (R 1048608)) rfl rfl (by show some (((R 1048608) : Int) != (R 1048608)) = some false; rw [bne_eq_false_iff_eq.2 (by first | omega | (simp only [sumVal, oct.sumF, oct.F, oct.ws]; omega))])
def ebFixs44 : Ent := .bin .neq (.chan (some 1048609)) (.chan (some 1048609)) (.bool false)
theorem ebFixs44_ok (R : Nat → Int) (hR : ∀ j, 0 ≤ R j ∧ R j ≤ 255) (n0 : Nat) (t0 t1 t2 t3 t4 t5 f0 f1 f2 f3 f4 f5 kd : Int) (hb : ebFixB R n0 t0 t1 t2 t3 t4 t5 f0 f1 f2 f3 f4 f5 kd) : @EntOK (ebFixV R hR n0 t0 t1 t2 t3 t4 t5 f0 f1 f2 f3 f4 f5 kd) Try.prog ebFixs44 := by
  letI : Env := ebFixV R hR n0 t0 t1 t2 t3 t4 t5 f0 f1 f2 f3 f4 f5 kd
  have rb1048609 := hR 1048609; exact entCmp (k := .u8) (a := (R 1048609)) (b := (R 1048609)) rfl rfl (by show some (((R 1048609) : Int) != (R 1048609)) = some false; rw [bne_eq_false_iff_eq.2 (by first | omega | (simp only [sumVal, oct.sumF, oct.F, oct.ws]; omega))])
def ebFixs45 : Ent := .bin .neq (.chan (some 1048610)) (.chan (some 1048610)) (.bool false)
theorem ebFixs45_ok (R : Nat → Int) (hR : ∀ j, 0 ≤ R j ∧ R j ≤ 255) (n0 : Nat) (t0 t1 t2 t3 t4 t5 f0 f1 f2 f3 f4 f5 kd : Int) (hb : ebFixB R n0 t0 t1 t2 t3 t4 t5 f0 f1 f2 f3 f4 f5 kd) : @EntOK (ebFixV R hR n0 t0 t1 t2 t3 t4 t5 f0 f1 f2 f3 f4 f5 kd) Try.prog ebFixs45 := by
  letI : Env := ebFixV R hR n0 t0 t1 t2 t3 t4 t5 f0 f1 f2 f3 f4 f5 kd
  have rb1048610 := hR 1048610; exact entCmp (k := .u8) (a := (R 1048610)) (b := (R 1048610)) rfl rfl (by show some (((R 1048610) : Int) != (R 1048610)) = some false; rw [bne_eq_false_iff_eq.2 (by first | omega | (simp only [sumVal, oct.sumF, oct.F, oct.ws]; omega))])
def ebFixs46 : Ent := .bin .neq (.chan (some 1048611)) (.chan (some 1048611)) (.bool false)
theorem ebFixs46_ok (R : Nat → Int) (hR : ∀ j, 0 ≤ R j ∧ R j ≤ 255) (n0 : Nat) (t0 t1 t2 t3 t4 t5 f0 f1 f2 f3 f4 f5 kd : Int) (hb : ebFixB R n0 t0 t1 t2 t3 t4 t5 f0 f1 f2 f3 f4 f5 kd) : @EntOK (ebFixV R hR n0 t0 t1 t2 t3 t4 t5 f0 f1 f2 f3 f4 f5 kd) Try.prog ebFixs46 := by
  letI : Env := ebFixV R hR n0 t0 t1 t2 t3 t4 t5 f0 f1 f2 f3 f4 f5 kd
  have rb1048611 := hR 1048611; exact entCmp (k := .u8) (a := (R 1048611)) (b := (R 1048611)) rfl rfl (by show some (((R 1048611) : Int) != (R 1048611)) = some false; rw [bne_eq_false_iff_eq.2 (by first | omega | (simp only [sumVal, oct.sumF, oct.F, oct.ws]; omega))])
def ebFixs47 : Ent := .bin .neq (.chan (some 1048612)) (.chan (some 1048612)) (.bool false)
theorem ebFixs47_ok (R : Nat → Int) (hR : ∀ j, 0 ≤ R j ∧ R j ≤ 255) (n0 : Nat) (t0 t1 t2 t3 t4 t5 f0 f1 f2 f3 f4 f5 kd : Int) (hb : ebFixB R n0 t0 t1 t2 t3 t4 t5 f0 f1 f2 f3 f4 f5 kd) : @EntOK (ebFixV R hR n0 t0 t1 t2 t3 t4 t5 f0 f1 f2 f3 f4 f5 kd) Try.prog ebFixs47 := by
  letI : Env := ebFixV R hR n0 t0 t1 t2 t3 t4 t5 f0 f1 f2 f3 f4 f5 kd
  have rb1048612 := hR 1048612; exact entCmp (k := .u8) (a := (R 1048612)) (b := (R 1048612)) rfl rfl (by show some (((R 1048612) : Int) != (R 1048612)) = some false; rw [bne_eq_false_iff_eq.2 (by first | omega | (simp only [sumVal, oct.sumF, oct.F, oct.ws]; omega))])
def ebFixs48 : Ent := .bin .neq (.chan (some 1048613)) (.chan (some 1048613)) (.bool false)
theorem ebFixs48_ok (R : Nat → Int) (hR : ∀ j, 0 ≤ R j ∧ R j ≤ 255) (n0 : Nat) (t0 t1 t2 t3 t4 t5 f0 f1 f2 f3 f4 f5 kd : Int) (hb : ebFixB R n0 t0 t1 t2 t3 t4 t5 f0 f1 f2 f3 f4 f5 kd) : @EntOK (ebFixV R hR n0 t0 t1 t2 t3 t4 t5 f0 f1 f2 f3 f4 f5 kd) Try.prog ebFixs48 := by
  letI : Env := ebFixV R hR n0 t0 t1 t2 t3 t4 t5 f0 f1 f2 f3 f4 f5 kd
  have rb1048613 := hR 1048613; exact entCmp (k := .u8) (a := (R 1048613)) (b := (R 1048613)) rfl rfl (by show some (((R 1048613) : Int) != (R 1048613)) = some false; rw [bne_eq_false_iff_eq.2 (by first | omega | (simp only [sumVal, oct.sumF, oct.F, oct.ws]; omega))])
def ebFixs49 : Ent := .bin .neq (.chan (some 1048614)) (.chan (some 1048614)) (.bool false)
theorem ebFixs49_ok (R : Nat → Int) (hR : ∀ j, 0 ≤ R j ∧ R j ≤ 255) (n0 : Nat) (t0 t1 t2 t3 t4 t5 f0 f1 f2 f3 f4 f5 kd : Int) (hb : ebFixB R n0 t0 t1 t2 t3 t4 t5 f0 f1 f2 f3 f4 f5 kd) : @EntOK (ebFixV R hR n0 t0 t1 t2 t3 t4 t5 f0 f1 f2 f3 f4 f5 kd) Try.prog ebFixs49 := by
  letI : Env := ebFixV R hR n0 t0 t1 t2 t3 t4 t5 f0 f1 f2 f3 f4 f5 kd
  have rb1048614 := hR 1048614; exact entCmp (k := .u8) (a := (R 1048614)) (b := (R 1048614)) rfl rfl (by show some (((R 1048614) : Int) != (R 1048614)) = some false; rw [bne_eq_false_iff_eq.2 (by first | omega | (simp only [sumVal, oct.sumF, oct.F, oct.ws]; omega))])
def ebFixs50 : Ent := .bin .neq (.chan (some 1048615)) (.chan (some 1048615)) (.bool false)
theorem ebFixs50_ok (R : Nat → Int) (hR : ∀ j, 0 ≤ R j ∧ R j ≤ 255) (n0 : Nat) (t0 t1 t2 t3 t4 t5 f0 f1 f2 f3 f4 f5 kd : Int) (hb : ebFixB R n0 t0 t1 t2 t3 t4 t5 f0 f1 f2 f3 f4 f5 kd) : @EntOK (ebFixV R hR n0 t0 t1 t2 t3 t4 t5 f0 f1 f2 f3 f4 f5 kd) Try.prog ebFixs50 := by
  letI : Env := ebFixV R hR n0 t0 t1 t2 t3 t4 t5 f0 f1 f2 f3 f4 f5 kd
  have rb1048615 := hR 1048615; exact entCmp (k := .u8) (a := (R 1048615)) (b := (R 1048615)) rfl rfl (by show some (((R 1048615) : Int) != (R 1048615)) = some false; rw [bne_eq_false_iff_eq.2 (by first | omega | (simp only [sumVal, oct.sumF, oct.F, oct.ws]; omega))])
def ebFixs51 : Ent := .bin .neq (.chan (some 1048616)) (.chan (some 1048616)) (.bool false)
theorem ebFixs51_ok (R : Nat → Int) (hR : ∀ j, 0 ≤ R j ∧ R j ≤ 255) (n0 : Nat) (t0 t1 t2 t3 t4 t5 f0 f1 f2 f3 f4 f5 kd : Int) (hb : ebFixB R n0 t0 t1 t2 t3 t4 t5 f0 f1 f2 f3 f4 f5 kd) : @EntOK (ebFixV R hR n0 t0 t1 t2 t3 t4 t5 f0 f1 f2 f3 f4 f5 kd) Try.prog ebFixs51 := by
  letI : Env := ebFixV R hR n0 t0 t1 t2 t3 t4 t5 f0 f1 f2 f3 f4 f5 kd
  have rb1048616 := hR 1048616; exact entCmp (k := .u8) (a := (R 1048616)) (b := (R 1048616)) rfl rfl (by show some (((R 1048616) : Int) != (R 1048616)) = some false; rw [bne_eq_false_iff_eq.2 (by first | omega | (simp only [sumVal, oct.sumF, oct.F, oct.ws]; omega))])
def ebFixs52 : Ent := .bin .neq (.chan (some 1048617)) (.chan (some 1048617)) (.bool false)
theorem ebFixs52_ok (R : Nat → Int) (hR : ∀ j, 0 ≤ R j ∧ R j ≤ 255) (n0 : Nat) (t0 t1 t2 t3 t4 t5 f0 f1 f2 f3 f4 f5 kd : Int) (hb : ebFixB R n0 t0 t1 t2 t3 t4 t5 f0 f1 f2 f3 f4 f5 kd) : @EntOK (ebFixV R hR n0 t0 t1 t2 t3 t4 t5 f0 f1 f2 f3 f4 f5 kd) Try.prog ebFixs52 := by
  letI : Env := ebFixV R hR n0 t0 t1 t2 t3 t4 t5 f0 f1 f2 f3 f4 f5 kd
  have rb1048617 := hR 1048617; exact entCmp (k := .u8) (a := (R 1048617)) (b := (R 1048617)) rfl rfl (by show some (((R 1048617) : Int) != (R 1048617)) = some false; rw [bne_eq_false_iff_eq.2 (by first | omega | (simp only [sumVal, oct.sumF, oct.F, oct.ws]; omega))])
def ebFixs53 : Ent := .bin .neq (.chan (some 1048618)) (.chan (some 1048618)) (.bool false)
theorem ebFixs53_ok (R : Nat → Int) (hR : ∀ j, 0 ≤ R j ∧ R j ≤ 255) (n0 : Nat) (t0 t1 t2 t3 t4 t5 f0 f1 f2 f3 f4 f5 kd : Int) (hb : ebFixB R n0 t0 t1 t2 t3 t4 t5 f0 f1 f2 f3 f4 f5 kd) : @EntOK (ebFixV R hR n0 t0 t1 t2 t3 t4 t5 f0 f1 f2 f3 f4 f5 kd) Try.prog ebFixs53 := by
  letI : Env := ebFixV R hR n0 t0 t1 t2 t3 t4 t5 f0 f1 f2 f3 f4 f5 kd
  have rb1048618 := hR 1048618; exact entCmp (k := .u8) (a := (R 1048618)) (b := (R 1048618)) rfl rfl (by show some (((R 1048618) : Int) != (R 1048618)) = some false; rw [bne_eq_false_iff_eq.2 (by first | omega | (simp only [sumVal, oct.sumF, oct.F, oct.ws]; omega))])
def ebFixs54 : Ent := .bin .neq (.chan (some 1048619)) (.chan (some 1048619)) (.bool false)
theorem ebFixs54_ok (R : Nat → Int) (hR : ∀ j, 0 ≤ R j ∧ R j ≤ 255) (n0 : Nat) (t0 t1 t2 t3 t4 t5 f0 f1 f2 f3 f4 f5 kd : Int) (hb : ebFixB R n0 t0 t1 t2 t3 t4 t5 f0 f1 f2 f3 f4 f5 kd) : @EntOK (ebFixV R hR n0 t0 t1 t2 t3 t4 t5 f0 f1 f2 f3 f4 f5 kd) Try.prog ebFixs54 := by
  letI : Env := ebFixV R hR n0 t0 t1 t2 t3 t4 t5 f0 f1 f2 f3 f4 f5 kd
  have rb1048619 := hR 1048619; exact entCmp (k := .u8) (a := (R 1048619)) (b := (R 1048619)) rfl rfl (by show some (((R 1048619) : Int) != (R 1048619)) = some false; rw [bne_eq_false_iff_eq.2 (by first | omega | (simp only [sumVal, oct.sumF, oct.F, oct.ws]; omega))])
def ebFixs55 : Ent := .bin .neq (.chan (some 1048620)) (.chan (some 1048620)) (.bool false)
theorem ebFixs55_ok (R : Nat → Int) (hR : ∀ j, 0 ≤ R j ∧ R j ≤ 255) (n0 : Nat) (t0 t1 t2 t3 t4 t5 f0 f1 f2 f3 f4 f5 kd : Int) (hb : ebFixB R n0 t0 t1 t2 t3 t4 t5 f0 f1 f2 f3 f4 f5 kd) : @EntOK (ebFixV R hR n0 t0 t1 t2 t3 t4 t5 f0 f1 f2 f3 f4 f5 kd) Try.prog ebFixs55 := by
  letI : Env := ebFixV R hR n0 t0 t1 t2 t3 t4 t5 f0 f1 f2 f3 f4 f5 kd
  have rb1048620 := hR 1048620; exact entCmp (k := .u8) (a := (R 1048620)) (b := (R 1048620)) rfl rfl (by show some (((R 1048620) : Int) != (R 1048620)) = some false; rw [bne_eq_false_iff_eq.2 (by first | omega | (simp only [sumVal, oct.sumF, oct.F, oct.ws]; omega))])
abbrev ebFixG : List Ent := [ebFixs0, ebFixs1, ebFixs2, ebFixs3, ebFixs4, ebFixs5, ebFixs6, ebFixs7, ebFixs8, ebFixs9, ebFixs11, ebFixs12, ebFixs13, ebFixs14, ebFixs15, ebFixs16, ebFixs17, ebFixs18, ebFixs19, ebFixs20, ebFixs21, ebFixs22, ebFixs23, ebFixs24, ebFixs25, ebFixs26, ebFixs27, ebFixs28, ebFixs29, ebFixs30, ebFixs31, ebFixs32, ebFixs33, ebFixs34, ebFixs35, ebFixs36, ebFixs37, ebFixs38, ebFixs39, ebFixs40, ebFixs41, ebFixs42, ebFixs43, ebFixs44, ebFixs45, ebFixs46, ebFixs47, ebFixs48, ebFixs49, ebFixs50, ebFixs51, ebFixs52, ebFixs53, ebFixs54, ebFixs55]
theorem ebFixG_ok (R : Nat → Int) (hR : ∀ j, 0 ≤ R j ∧ R j ≤ 255) (n0 : Nat) (t0 t1 t2 t3 t4 t5 f0 f1 f2 f3 f4 f5 kd : Int) (hb : ebFixB R n0 t0 t1 t2 t3 t4 t5 f0 f1 f2 f3 f4 f5 kd) : ∀ e ∈ ebFixG, @EntOK (ebFixV R hR n0 t0 t1 t2 t3 t4 t5 f0 f1 f2 f3 f4 f5 kd) Try.prog e := by
  letI : Env := ebFixV R hR n0 t0 t1 t2 t3 t4 t5 f0 f1 f2 f3 f4 f5 kd
  exact (ac (ebFixs0_ok R hR n0 t0 t1 t2 t3 t4 t5 f0 f1 f2 f3 f4 f5 kd hb) (ac (ebFixs1_ok R hR n0 t0 t1 t2 t3 t4 t5 f0 f1 f2 f3 f4 f5 kd hb) (ac (ebFixs2_ok R hR n0 t0 t1 t2 t3 t4 t5 f0 f1 f2 f3 f4 f5 kd hb) (ac (ebFixs3_ok R hR n0 t0 t1 t2 t3 t4 t5 f0 f1 f2 f3 f4 f5 kd hb) (ac (ebFixs4_ok R hR n0 t0 t1 t2 t3 t4 t5 f0 f1 f2 f3 f4 f5 kd hb) (ac (ebFixs5_ok R hR n0 t0 t1 t2 t3 t4 t5 f0 f1 f2 f3 f4 f5 kd hb) (ac (ebFixs6_ok R hR n0 t0 t1 t2 t3 t4 t5 f0 f1 f2 f3 f4 f5 kd hb) (ac (ebFixs7_ok R hR n0 t0 t1 t2 t3 t4 t5 f0 f1 f2 f3 f4 f5 kd hb) (ac (ebFixs8_ok R hR n0 t0 t1 t2 t3 t4 t5 f0 f1 f2 f3 f4 f5 kd hb) (ac (ebFixs9_ok R hR n0 t0 t1 t2 t3 t4 t5 f0 f1 f2 f3 f4 f5 kd hb) (ac (ebFixs11_ok R hR n0 t0 t1 t2 t3 t4 t5 f0 f1 f2 f3 f4 f5 kd hb) (ac (ebFixs12_ok R hR n0 t0 t1 t2 t3 t4 t5 f0 f1 f2 f3 f4 f5 kd hb) (ac (ebFixs13_ok R hR n0 t0 t1 t2 t3 t4 t5 f0 f1 f2 f3 f4 f5 kd hb) (ac (ebFixs14_ok R hR n0 t0 t1 t2 t3 t4 t5 f0 f1 f2 f3 f4 f5 kd hb) (ac (ebFixs15_ok R hR n0 t0 t1 t2 t3 t4 t5 f0 f1 f2 f3 f4 f5 kd hb) (ac (ebFixs16_ok R hR n0 t0 t1 t2 t3 t4 t5 f0 f1 f2 f3 f4 f5 kd hb) (ac (ebFixs17_ok R hR n0 t0 t1 t2 t3 t4 t5 f0 f1 f2 f3 f4 f5 kd hb) (ac (ebFixs18_ok R hR n0 t0 t1 t2 t3 t4 t5 f0 f1 f2 f3 f4 f5 kd hb) (ac (ebFixs19_ok R hR n0 t0 t1 t2 t3 t4 t5 f0 f1 f2 f3 f4 f5 kd hb) (ac (ebFixs20_ok R hR n0 t0 t1 t2 t3 t4 t5 f0 f1 f2 f3 f4 f5 kd hb) (ac (ebFixs21_ok R hR n0 t0 t1 t2 t3 t4 t5 f0 f1 f2 f3 f4 f5 kd hb) (ac (ebFixs22_ok R hR n0 t0 t1 t2 t3 t4 t5 f0 f1 f2 f3 f4 f5 kd hb) (ac (ebFixs23_ok R hR n0 t0 t1 t2 t3 t4 t5 f0 f1 f2 f3 f4 f5 kd hb) (ac (ebFixs24_ok R hR n0 t0 t1 t2 t3 t4 t5 f0 f1 f2 f3 f4 f5 kd hb) (ac (ebFixs25_ok R hR n0 t0 t1 t2 t3 t4 t5 f0 f1 f2 f3 f4 f5 kd hb) (ac (ebFixs26_ok R hR n0 t0 t1 t2 t3 t4 t5 f0 f1 f2 f3 f4 f5 kd hb) (ac (ebFixs27_ok R hR n0 t0 t1 t2 t3 t4 t5 f0 f1 f2 f3 f4 f5 kd hb) (ac (ebFixs28_ok R hR n0 t0 t1 t2 t3 t4 t5 f0 f1 f2 f3 f4 f5 kd hb) (ac (ebFixs29_ok R hR n0 t0 t1 t2 t3 t4 t5 f0 f1 f2 f3 f4 f5 kd hb) (ac (ebFixs30_ok R hR n0 t0 t1 t2 t3 t4 t5 f0 f1 f2 f3 f4 f5 kd hb) (ac (ebFixs31_ok R hR n0 t0 t1 t2 t3 t4 t5 f0 f1 f2 f3 f4 f5 kd hb) (ac (ebFixs32_ok R hR n0 t0 t1 t2 t3 t4 t5 f0 f1 f2 f3 f4 f5 kd hb) (ac (ebFixs33_ok R hR n0 t0 t1 t2 t3 t4 t5 f0 f1 f2 f3 f4 f5 kd hb) (ac (ebFixs34_ok R hR n0 t0 t1 t2 t3 t4 t5 f0 f1 f2 f3 f4 f5 kd hb) (ac (ebFixs35_ok R hR n0 t0 t1 t2 t3 t4 t5 f0 f1 f2 f3 f4 f5 kd hb) (ac (ebFixs36_ok R hR n0 t0 t1 t2 t3 t4 t5 f0 f1 f2 f3 f4 f5 kd hb) (ac (ebFixs37_ok R hR n0 t0 t1 t2 t3 t4 t5 f0 f1 f2 f3 f4 f5 kd hb) (ac (ebFixs38_ok R hR n0 t0 t1 t2 t3 t4 t5 f0 f1 f2 f3 f4 f5 kd hb) (ac (ebFixs39_ok R hR n0 t0 t1 t2 t3 t4 t5 f0 f1 f2 f3 f4 f5 kd hb) (ac (ebFixs40_ok R hR n0 t0 t1 t2 t3 t4 t5 f0 f1 f2 f3 f4 f5 kd hb) (ac (ebFixs41_ok R hR n0 t0 t1 t2 t3 t4 t5 f0 f1 f2 f3 f4 f5 kd hb) (ac (ebFixs42_ok R hR n0 t0 t1 t2 t3 t4 t5 f0 f1 f2 f3 f4 f5 kd hb) (ac (ebFixs43_ok R hR n0 t0 t1 t2 t3 t4 t5 f0 f1 f2 f3 f4 f5 kd hb) (ac (ebFixs44_ok R hR n0 t0 t1 t2 t3 t4 t5 f0 f1 f2 f3 f4 f5 kd hb) (ac (ebFixs45_ok R hR n0 t0 t1 t2 t3 t4 t5 f0 f1 f2 f3 f4 f5 kd hb) (ac (ebFixs46_ok R hR n0 t0 t1 t2 t3 t4 t5 f0 f1 f2 f3 f4 f5 kd hb) (ac (ebFixs47_ok R hR n0 t0 t1 t2 t3 t4 t5 f0 f1 f2 f3 f4 f5 kd hb) (ac (ebFixs48_ok R hR n0 t0 t1 t2 t3 t4 t5 f0 f1 f2 f3 f4 f5 kd hb) (ac (ebFixs49_ok R hR n0 t0 t1 t2 t3 t4 t5 f0 f1 f2 f3 f4 f5 kd hb) (ac (ebFixs50_ok R hR n0 t0 t1 t2 t3 t4 t5 f0 f1 f2 f3 f4 f5 kd hb) (ac (ebFixs51_ok R hR n0 t0 t1 t2 t3 t4 t5 f0 f1 f2 f3 f4 f5 kd hb) (ac (ebFixs52_ok R hR n0 t0 t1 t2 t3 t4 t5 f0 f1 f2 f3 f4 f5 kd hb) (ac (ebFixs53_ok R hR n0 t0 t1 t2 t3 t4 t5 f0 f1 f2 f3 f4 f5 kd hb) (ac (ebFixs54_ok R hR n0 t0 t1 t2 t3 t4 t5 f0 f1 f2 f3 f4 f5 kd hb) (ac (ebFixs55_ok R hR n0 t0 t1 t2 t3 t4 t5 f0 f1 f2 f3 f4 f5 kd hb) allENil)))))))))))))))))))))))))))))))))))))))))))))))))))))))
set_option maxHeartbeats 4000000 in
theorem ebFix_run (w : World) (R : Nat → Int) (hR : ∀ j, 0 ≤ R j ∧ R j ≤ 255) (A0 : Addr) (n0 cp0 : Nat) (w0 : RowIn R 1048576 w A0 n0 cp0) (hn : n0 ≤ 70000) (hm : 1 ≤ n0) (hx : n0 < 46) (t0 t1 t2 t3 t4 t5 f0 f1 f2 f3 f4 f5 kd : Int) (ht0 : 0 ≤ t0 ∧ t0 ≤ 255) (ht1 : 0 ≤ t1 ∧ t1 ≤ 255) (ht2 : 0 ≤ t2 ∧ t2 ≤ 255) (ht3 : 0 ≤ t3 ∧ t3 ≤ 255) (ht4 : 0 ≤ t4 ∧ t4 ≤ 255) (ht5 : 0 ≤ t5 ∧ t5 ≤ 255) (hf0 : 0 ≤ f0 ∧ f0 ≤ 255) (hf1 : 0 ≤ f1 ∧ f1 ≤ 255) (hf2 : 0 ≤ f2 ∧ f2 ≤ 255) (hf3 : 0 ≤ f3 ∧ f3 ≤ 255) (hf4 : 0 ≤ f4 ∧ f4 ≤ 255) (hf5 : 0 ≤ f5 ∧ f5 ≤ 255) (hkd : (-9223372036854775808) ≤ kd ∧ kd ≤ 9223372036854775807) (hgk : 1536 ≤ kd ∧ kd ≤ 65535) (m0 : Nat) (hm0 : n0 = m0) (L : List Ent) (hents : ∀ e ∈ L, @EntOK (ebFixV R hR n0 t0 t1 t2 t3 t4 t5 f0 f1 f2 f3 f4 f5 kd) Try.prog e) (h : says (fxCall Try.prog (tabG Try.prog L) (spTwo (spHelp ⟨12, 9, 13, 5⟩ [0]) (spKnown 15)) 300 5 [.agg #[.chan (some 1), .chan (some 2), .chan (some 3), .chan (some 4), .chan (some 5), .chan (some 6), .chan (some 7), .chan (some 8), .chan (some 9), .chan (some 10), .chan (some 11), .chan (some 12), .chan (some 13), .slice (some ⟨0, 0, some 0⟩) m0 0]] 1 (mem1 (rowAo 1048576 0 m0 5))) = some true) : Calls Try.prog 5 #[.agg #[.int .u8 t0, .int .u8 t1, .int .u8 t2, .int .u8 t3, .int .u8 t4, .int .u8 t5, .int .u8 f0, .int .u8 f1, .int .u8 f2, .int .u8 f3, .int .u8 f4, .int .u8 f5, .int .i64 kd, .slice (some A0) n0 cp0]] w (fun e w' => e = .returned (.bool true) ∧ Only [] w w') := by
  letI : Env := (ebFixV R hR n0 t0 t1 t2 t3 t4 t5 f0 f1 f2 f3 f4 f5 kd)
  have hsp : SpOK Try.prog (spTwo (spHelp ⟨12, 9, 13, 5⟩ [0]) (spKnown 15)) := (spTwo_ok (spHelp_ok helpC (by
    intro q hq
    simp only [List.mem_cons, List.not_mem_nil, or_false] at hq
    subst hq
    rw [lenOf_eq (n := n0) rfl]; omega)) (spKnown_ok knownBody known))
  refine lawR (tab := tabG Try.prog L) hsp (tabG_ok hents) (c0 := 1) (β0 := mp1 (rowIm A0 n0 cp0)) (w := w) h (sim1 rfl w0.lt (rowIn_ob w0 (by decide) rfl (by omega))) (fun i hi => ?_) ?_
  · match i, hi with
    | i + 1, _ => rfl
  · exact (PW.cons (PW.agg (PW.cons (.opq 1 rfl (fun b h => by cases h)) (PW.cons (.opq 2 rfl (fun b h => by cases h)) (PW.cons (.opq 3 rfl (fun b h => by cases h)) (PW.cons (.opq 4 rfl (fun b h => by cases h)) (PW.cons (.opq 5 rfl (fun b h => by cases h)) (PW.cons (.opq 6 rfl (fun b h => by cases h)) (PW.cons (.opq 7 rfl (fun b h => by cases h)) (PW.cons (.opq 8 rfl (fun b h => by cases h)) (PW.cons (.opq 9 rfl (fun b h => by cases h)) (PW.cons (.opq 10 rfl (fun b h => by cases h)) (PW.cons (.opq 11 rfl (fun b h => by cases h)) (PW.cons (.opq 12 rfl (fun b h => by cases h)) (PW.cons (.opq 13 rfl (fun b h => by cases h)) (PW.cons (rowIn_vrK (m := m0) w0 (by omega) rfl) (PW.nil _)))))))))))))))) (PW.nil _))
abbrev ebFix0K (R : Nat → Int) (n0 : Nat) (t0 t1 t2 t3 t4 t5 f0 f1 f2 f3 f4 f5 kd : Int) : Prop := ebFixB R n0 t0 t1 t2 t3 t4 t5 f0 f1 f2 f3 f4 f5 kd ∧ ((((kd / 256) * 256) + (kd % 256)) = kd) ∧ (n0 = 1) ∧ True
def ebFix0e0 : Ent := .bin .lss (.chan (some 13)) (.int .i64 1536) (.bool false)
theorem ebFix0e0_ok (R : Nat → Int) (hR : ∀ j, 0 ≤ R j ∧ R j ≤ 255) (n0 : Nat) (t0 t1 t2 t3 t4 t5 f0 f1 f2 f3 f4 f5 kd : Int) (hk : ebFix0K R n0 t0 t1 t2 t3 t4 t5 f0 f1 f2 f3 f4 f5 kd) : @EntOK (ebFixV R hR n0 t0 t1 t2 t3 t4 t5 f0 f1 f2 f3 f4 f5 kd) Try.prog ebFix0e0 := by
  letI : Env := (ebFixV R hR n0 t0 t1 t2 t3 t4 t5 f0 f1 f2 f3 f4 f5 kd)
  obtain ⟨hb, k0, k1, _⟩ := hk; exact entCmp (k := .i64) (a := kd) (b := 1536) rfl rfl (by show some (decide ((kd : Int) < 1536)) = some false; rw [decide_eq_false (by first | omega | (simp only [sumVal, oct.sumF, oct.F, oct.ws]; omega))])
def ebFix0e1 : Ent := .bin .gtr (.chan (some 13)) (.int .i64 65535) (.bool false)
theorem ebFix0e1_ok (R : Nat → Int) (hR : ∀ j, 0 ≤ R j ∧ R j ≤ 255) (n0 : Nat) (t0 t1 t2 t3 t4 t5 f0 f1 f2 f3 f4 f5 kd : Int) (hk : ebFix0K R n0 t0 t1 t2 t3 t4 t5 f0 f1 f2 f3 f4 f5 kd) : @EntOK (ebFixV R hR n0 t0 t1 t2 t3 t4 t5 f0 f1 f2 f3 f4 f5 kd) Try.prog ebFix0e1 := by
  letI : Env := (ebFixV R hR n0 t0 t1 t2 t3 t4 t5 f0 f1 f2 f3 f4 f5 kd)
  obtain ⟨hb, k0, k1, _⟩ := hk; exact entCmp (k := .i64) (a := kd) (b := 65535) rfl rfl (by show some (decide ((kd : Int) > 65535)) = some false; rw [decide_eq_false (by first | omega | (simp only [sumVal, oct.sumF, oct.F, oct.ws]; omega))])
def ebFix0e10 : Ent := .bin .lss (.chan (some 21)) (.int .i64 1536) (.bool false)
theorem ebFix0e10_ok (R : Nat → Int) (hR : ∀ j, 0 ≤ R j ∧ R j ≤ 255) (n0 : Nat) (t0 t1 t2 t3 t4 t5 f0 f1 f2 f3 f4 f5 kd : Int) (hk : ebFix0K R n0 t0 t1 t2 t3 t4 t5 f0 f1 f2 f3 f4 f5 kd) : @EntOK (ebFixV R hR n0 t0 t1 t2 t3 t4 t5 f0 f1 f2 f3 f4 f5 kd) Try.prog ebFix0e10 := by
  letI : Env := (ebFixV R hR n0 t0 t1 t2 t3 t4 t5 f0 f1 f2 f3 f4 f5 kd)
  obtain ⟨hb, k0, k1, _⟩ := hk; exact entCmp (k := .i64) (a := (((kd / 256) * 256) + (kd % 256))) (b := 1536) rfl rfl (by show some (decide (((((kd / 256) * 256) + (kd % 256)) : Int) < 1536)) = some false; rw [decide_eq_false (by first | omega | (simp only [sumVal, oct.sumF, oct.F, oct.ws]; omega))])
abbrev ebFix0L : List Ent := ebFix0e0 :: ebFix0e1 :: ebFix0e10 :: ebFixs10 :: ebFixG
theorem ebFix0 (w : World) (R : Nat → Int) (hR : ∀ j, 0 ≤ R j ∧ R j ≤ 255) (A0 : Addr) (n0 cp0 : Nat) (w0 : RowIn R 1048576 w A0 n0 cp0) (hn : n0 ≤ 70000) (hm : 1 ≤ n0) (hx : n0 < 46) (t0 t1 t2 t3 t4 t5 f0 f1 f2 f3 f4 f5 kd : Int) (ht0 : 0 ≤ t0 ∧ t0 ≤ 255) (ht1 : 0 ≤ t1 ∧ t1 ≤ 255) (ht2 : 0 ≤ t2 ∧ t2 ≤ 255) (ht3 : 0 ≤ t3 ∧ t3 ≤ 255) (ht4 : 0 ≤ t4 ∧ t4 ≤ 255) (ht5 : 0 ≤ t5 ∧ t5 ≤ 255) (hf0 : 0 ≤ f0 ∧ f0 ≤ 255) (hf1 : 0 ≤ f1 ∧ f1 ≤ 255) (hf2 : 0 ≤ f2 ∧ f2 ≤ 255) (hf3 : 0 ≤ f3 ∧ f3 ≤ 255) (hf4 : 0 ≤ f4 ∧ f4 ≤ 255) (hf5 : 0 ≤ f5 ∧ f5 ≤ 255) (hkd : (-9223372036854775808) ≤ kd ∧ kd ≤ 9223372036854775807) (hgk : 1536 ≤ kd ∧ kd ≤ 65535) (k0 : (((kd / 256) * 256) + (kd % 256)) = kd) (k1 : n0 = 1) : Calls Try.prog 5 #[.agg #[.int .u8 t0, .int .u8 t1, .int .u8 t2, .int .u8 t3, .int .u8 t4, .int .u8 t5, .int .u8 f0, .int .u8 f1, .int .u8 f2, .int .u8 f3, .int .u8 f4, .int .u8 f5, .int .i64 kd, .slice (some A0) n0 cp0]] w (fun e w' => e = .returned (.bool true) ∧ Only [] w w') := by
  letI : Env := (ebFixV R hR n0 t0 t1 t2 t3 t4 t5 f0 f1 f2 f3 f4 f5 kd)
  have hb : ebFixB R n0 t0 t1 t2 t3 t4 t5 f0 f1 f2 f3 f4 f5 kd := ⟨hx, hm, hgk, ht0, ht1, ht2, ht3, ht4, ht5, hf0, hf1, hf2, hf3, hf4, hf5, hkd⟩
  have hk : ebFix0K R n0 t0 t1 t2 t3 t4 t5 f0 f1 f2 f3 f4 f5 kd := ⟨hb, k0, k1, trivial⟩
  exact ebFix_run w R hR A0 n0 cp0 w0 hn hm hx t0 t1 t2 t3 t4 t5 f0 f1 f2 f3 f4 f5 kd ht0 ht1 ht2 ht3 ht4 ht5 hf0 hf1 hf2 hf3 hf4 hf5 hkd hgk 1 (by omega) ebFix0L (ac (ebFix0e0_ok R hR n0 t0 t1 t2 t3 t4 t5 f0 f1 f2 f3 f4 f5 kd hk) (ac (ebFix0e1_ok R hR n0 t0 t1 t2 t3 t4 t5 f0 f1 f2 f3 f4 f5 kd hk) (ac (ebFix0e10_ok R hR n0 t0 t1 t2 t3 t4 t5 f0 f1 f2 f3 f4 f5 kd hk) (ac (ebFixs10_ok R hR n0 t0 t1 t2 t3 t4 t5 f0 f1 f2 f3 f4 f5 kd hb k0) (ebFixG_ok R hR n0 t0 t1 t2 t3 t4 t5 f0 f1 f2 f3 f4 f5 kd hb))))) (by kernel_rfl)
abbrev ebFix1K (R : Nat → Int) (n0 : Nat) (t0 t1 t2 t3 t4 t5 f0 f1 f2 f3 f4 f5 kd : Int) : Prop := ebFixB R n0 t0 t1 t2 t3 t4 t5 f0 f1 f2 f3 f4 f5 kd ∧ ((((kd / 256) * 256) + (kd % 256)) = kd) ∧ (¬ (n0 = 1)) ∧ (n0 = 2) ∧ True
def ebFix1e0 : Ent := .bin .lss (.chan (some 13)) (.int .i64 1536) (.bool false)
theorem ebFix1e0_ok (R : Nat → Int) (hR : ∀ j, 0 ≤ R j ∧ R j ≤ 255) (n0 : Nat) (t0 t1 t2 t3 t4 t5 f0 f1 f2 f3 f4 f5 kd : Int) (hk : ebFix1K R n0 t0 t1 t2 t3 t4 t5 f0 f1 f2 f3 f4 f5 kd) : @EntOK (ebFixV R hR n0 t0 t1 t2 t3 t4 t5 f0 f1 f2 f3 f4 f5 kd) Try.prog ebFix1e0 := by
  letI : Env := (ebFixV R hR n0 t0 t1 t2 t3 t4 t5 f0 f1 f2 f3 f4 f5 kd)
  obtain ⟨hb, k0, k1, k2, _⟩ := hk; exact entCmp (k := .i64) (a := kd) (b := 1536) rfl rfl (by show some (decide ((kd : Int) < 1536)) = some false; rw [decide_eq_false (by first | omega | (simp only [sumVal, oct.sumF, oct.F, oct.ws]; omega))])
def ebFix1e1 : Ent := .bin .gtr (.chan (some 13)) (.int .i64 65535) (.bool false)
theorem ebFix1e1_ok (R : Nat → Int) (hR : ∀ j, 0 ≤ R j ∧ R j ≤ 255) (n0 : Nat) (t0 t1 t2 t3 t4 t5 f0 f1 f2 f3 f4 f5 kd : Int) (hk : ebFix1K R n0 t0 t1 t2 t3 t4 t5 f0 f1 f2 f3 f4 f5 kd) : @EntOK (ebFixV R hR n0 t0 t1 t2 t3 t4 t5 f0 f1 f2 f3 f4 f5 kd) Try.prog ebFix1e1 := by
  letI : Env := (ebFixV R hR n0 t0 t1 t2 t3 t4 t5 f0 f1 f2 f3 f4 f5 kd)
  obtain ⟨hb, k0, k1, k2, _⟩ := hk; exact entCmp (k := .i64) (a := kd) (b := 65535) rfl rfl (by show some (decide ((kd : Int) > 65535)) = some false; rw [decide_eq_false (by first | omega | (simp only [sumVal, oct.sumF, oct.F, oct.ws]; omega))])
def ebFix1e10 : Ent := .bin .lss (.chan (some 21)) (.int .i64 1536) (.bool false)
theorem ebFix1e10_ok (R : Nat → Int) (hR : ∀ j, 0 ≤ R j ∧ R j ≤ 255) (n0 : Nat) (t0 t1 t2 t3 t4 t5 f0 f1 f2 f3 f4 f5 kd : Int) (hk : ebFix1K R n0 t0 t1 t2 t3 t4 t5 f0 f1 f2 f3 f4 f5 kd) : @EntOK (ebFixV R hR n0 t0 t1 t2 t3 t4 t5 f0 f1 f2 f3 f4 f5 kd) Try.prog ebFix1e10 := by
  letI : Env := (ebFixV R hR n0 t0 t1 t2 t3 t4 t5 f0 f1 f2 f3 f4 f5 kd)
  obtain ⟨hb, k0, k1, k2, _⟩ := hk; exact entCmp (k := .i64) (a := (((kd / 256) * 256) + (kd % 256))) (b := 1536) rfl rfl (by show some (decide (((((kd / 256) * 256) + (kd % 256)) : Int) < 1536)) = some false; rw [decide_eq_false (by first | omega | (simp only [sumVal, oct.sumF, oct.F, oct.ws]; omega))])
abbrev ebFix1L : List Ent := ebFix1e0 :: ebFix1e1 :: ebFix1e10 :: ebFixs10 :: ebFixG
theorem ebFix1 (w : World) (R : Nat → Int) (hR : ∀ j, 0 ≤ R j ∧ R j ≤ 255) (A0 : Addr) (n0 cp0 : Nat) (w0 : RowIn R 1048576 w A0 n0 cp0) (hn : n0 ≤ 70000) (hm : 1 ≤ n0) (hx : n0 < 46) (t0 t1 t2 t3 t4 t5 f0 f1 f2 f3 f4 f5 kd : Int) (ht0 : 0 ≤ t0 ∧ t0 ≤ 255) (ht1 : 0 ≤ t1 ∧ t1 ≤ 255) (ht2 : 0 ≤ t2 ∧ t2 ≤ 255) (ht3 : 0 ≤ t3 ∧ t3 ≤ 255) (ht4 : 0 ≤ t4 ∧ t4 ≤ 255) (ht5 : 0 ≤ t5 ∧ t5 ≤ 255) (hf0 : 0 ≤ f0 ∧ f0 ≤ 255) (hf1 : 0 ≤ f1 ∧ f1 ≤ 255) (hf2 : 0 ≤ f2 ∧ f2 ≤ 255) (hf3 : 0 ≤ f3 ∧ f3 ≤ 255) (hf4 : 0 ≤ f4 ∧ f4 ≤ 255) (hf5 : 0 ≤ f5 ∧ f5 ≤ 255) (hkd : (-9223372036854775808) ≤ kd ∧ kd ≤ 9223372036854775807) (hgk : 1536 ≤ kd ∧ kd ≤ 65535) (k0 : (((kd / 256) * 256) + (kd % 256)) = kd) (k1 : ¬ (n0 = 1)) (k2 : n0 = 2) : Calls Try.prog 5 #[.agg #[.int .u8 t0, .int .u8 t1, .int .u8 t2, .int .u8 t3, .int .u8 t4, .int .u8 t5, .int .u8 f0, .int .u8 f1, .int .u8 f2, .int .u8 f3, .int .u8 f4, .int .u8 f5, .int .i64 kd, .slice (some A0) n0 cp0]] w (fun e w' => e = .returned (.bool true) ∧ Only [] w w') := by
  letI : Env := (ebFixV R hR n0 t0 t1 t2 t3 t4 t5 f0 f1 f2 f3 f4 f5 kd)
  have hb : ebFixB R n0 t0 t1 t2 t3 t4 t5 f0 f1 f2 f3 f4 f5 kd := ⟨hx, hm, hgk, ht0, ht1, ht2, ht3, ht4, ht5, hf0, hf1, hf2, hf3, hf4, hf5, hkd⟩
  have hk : ebFix1K R n0 t0 t1 t2 t3 t4 t5 f0 f1 f2 f3 f4 f5 kd := ⟨hb, k0, k1, k2, trivial⟩
  exact ebFix_run w R hR A0 n0 cp0 w0 hn hm hx t0 t1 t2 t3 t4 t5 f0 f1 f2 f3 f4 f5 kd ht0 ht1 ht2 ht3 ht4 ht5 hf0 hf1 hf2 hf3 hf4 hf5 hkd hgk 2 (by omega) ebFix1L (ac (ebFix1e0_ok R hR n0 t0 t1 t2 t3 t4 t5 f0 f1 f2 f3 f4 f5 kd hk) (ac (ebFix1e1_ok R hR n0 t0 t1 t2 t3 t4 t5 f0 f1 f2 f3 f4 f5 kd hk) (ac (ebFix1e10_ok R hR n0 t0 t1 t2 t3 t4 t5 f0 f1 f2 f3 f4 f5 kd hk) (ac (ebFixs10_ok R hR n0 t0 t1 t2 t3 t4 t5 f0 f1 f2 f3 f4 f5 kd hb k0) (ebFixG_ok R hR n0 t0 t1 t2 t3 t4 t5 f0 f1 f2 f3 f4 f5 kd hb))))) (by kernel_rfl)
abbrev ebFix2K (R : Nat → Int) (n0 : Nat) (t0 t1 t2 t3 t4 t5 f0 f1 f2 f3 f4 f5 kd : Int) : Prop := ebFixB R n0 t0 t1 t2 t3 t4 t5 f0 f1 f2 f3 f4 f5 kd ∧ ((((kd / 256) * 256) + (kd % 256)) = kd) ∧ (¬ (n0 = 1)) ∧ (¬ (n0 = 2)) ∧ (n0 = 3) ∧ True
def ebFix2e0 : Ent := .bin .lss (.chan (some 13)) (.int .i64 1536) (.bool false)
theorem ebFix2e0_ok (R : Nat → Int) (hR : ∀ j, 0 ≤ R j ∧ R j ≤ 255) (n0 : Nat) (t0 t1 t2 t3 t4 t5 f0 f1 f2 f3 f4 f5 kd : Int) (hk : ebFix2K R n0 t0 t1 t2 t3 t4 t5 f0 f1 f2 f3 f4 f5 kd) : @EntOK (ebFixV R hR n0 t0 t1 t2 t3 t4 t5 f0 f1 f2 f3 f4 f5 kd) Try.prog ebFix2e0 := by
  letI : Env := (ebFixV R hR n0 t0 t1 t2 t3 t4 t5 f0 f1 f2 f3 f4 f5 kd)
  obtain ⟨hb, k0, k1, k2, k3, _⟩ := hk; exact entCmp (k := .i64) (a := kd) (b := 1536) rfl rfl (by show some (decide ((kd : Int) < 1536)) = some false; rw [decide_eq_false (by first | omega | (simp only [sumVal, oct.sumF, oct.F, oct.ws]; omega))])
def ebFix2e1 : Ent := .bin .gtr (.chan (some 13)) (.int .i64 65535) (.bool false)
theorem ebFix2e1_ok (R : Nat → Int) (hR : ∀ j, 0 ≤ R j ∧ R j ≤ 255) (n0 : Nat) (t0 t1 t2 t3 t4 t5 f0 f1 f2 f3 f4 f5 kd : Int) (hk : ebFix2K R n0 t0 t1 t2 t3 t4 t5 f0 f1 f2 f3 f4 f5 kd) : @EntOK (ebFixV R hR n0 t0 t1 t2 t3 t4 t5 f0 f1 f2 f3 f4 f5 kd) Try.prog ebFix2e1 := by
  letI : Env := (ebFixV R hR n0 t0 t1 t2 t3 t4 t5 f0 f1 f2 f3 f4 f5 kd)
  obtain ⟨hb, k0, k1, k2, k3, _⟩ := hk; exact entCmp (k := .i64) (a := kd) (b := 65535) rfl rfl (by show some (decide ((kd : Int) > 65535)) = some false; rw [decide_eq_false (by first | omega | (simp only [sumVal, oct.sumF, oct.F, oct.ws]; omega))])
def ebFix2e10 : Ent := .bin .lss (.chan (some 21)) (.int .i64 1536) (.bool false)
theorem ebFix2e10_ok (R : Nat → Int) (hR : ∀ j, 0 ≤ R j ∧ R j ≤ 255) (n0 : Nat) (t0 t1 t2 t3 t4 t5 f0 f1 f2 f3 f4 f5 kd : Int) (hk : ebFix2K R n0 t0 t1 t2 t3 t4 t5 f0 f1 f2 f3 f4 f5 kd) : @EntOK (ebFixV R hR n0 t0 t1 t2 t3 t4 t5 f0 f1 f2 f3 f4 f5 kd) Try.prog ebFix2e10 := by
  letI : Env := (ebFixV R hR n0 t0 t1 t2 t3 t4 t5 f0 f1 f2 f3 f4 f5 kd)
  obtain ⟨hb, k0, k1, k2, k3, _⟩ := hk; exact entCmp (k := .i64) (a := (((kd / 256) * 256) + (kd % 256))) (b := 1536) rfl rfl (by show some (decide (((((kd / 256) * 256) + (kd % 256)) : Int) < 1536)) = some false; rw [decide_eq_false (by first | omega | (simp only [sumVal, oct.sumF, oct.F, oct.ws]; omega))])
abbrev ebFix2L : List Ent := ebFix2e0 :: ebFix2e1 :: ebFix2e10 :: ebFixs10 :: ebFixG
theorem ebFix2 (w : World) (R : Nat → Int) (hR : ∀ j, 0 ≤ R j ∧ R j ≤ 255) (A0 : Addr) (n0 cp0 : Nat) (w0 : RowIn R 1048576 w A0 n0 cp0) (hn : n0 ≤ 70000) (hm : 1 ≤ n0) (hx : n0 < 46) (t0 t1 t2 t3 t4 t5 f0 f1 f2 f3 f4 f5 kd : Int) (ht0 : 0 ≤ t0 ∧ t0 ≤ 255) (ht1 : 0 ≤ t1 ∧ t1 ≤ 255) (ht2 : 0 ≤ t2 ∧ t2 ≤ 255) (ht3 : 0 ≤ t3 ∧ t3 ≤ 255) (ht4 : 0 ≤ t4 ∧ t4 ≤ 255) (ht5 : 0 ≤ t5 ∧ t5 ≤ 255) (hf0 : 0 ≤ f0 ∧ f0 ≤ 255) (hf1 : 0 ≤ f1 ∧ f1 ≤ 255) (hf2 : 0 ≤ f2 ∧ f2 ≤ 255) (hf3 : 0 ≤ f3 ∧ f3 ≤ 255) (hf4 : 0 ≤ f4 ∧ f4 ≤ 255) (hf5 : 0 ≤ f5 ∧ f5 ≤ 255) (hkd : (-9223372036854775808) ≤ kd ∧ kd ≤ 9223372036854775807) (hgk : 1536 ≤ kd ∧ kd ≤ 65535) (k0 : (((kd / 256) * 256) + (kd % 256)) = kd) (k1 : ¬ (n0 = 1)) (k2 : ¬ (n0 = 2)) (k3 : n0 = 3) : Calls Try.prog 5 #[.agg #[.int .u8 t0, .int .u8 t1, .int .u8 t2, .int .u8 t3, .int .u8 t4, .int .u8 t5, .int .u8 f0, .int .u8 f1, .int .u8 f2, .int .u8 f3, .int .u8 f4, .int .u8 f5, .int .i64 kd, .slice (some A0) n0 cp0]] w (fun e w' => e = .returned (.bool true) ∧ Only [] w w') := by
  letI : Env := (ebFixV R hR n0 t0 t1 t2 t3 t4 t5 f0 f1 f2 f3 f4 f5 kd)
  have hb : ebFixB R n0 t0 t1 t2 t3 t4 t5 f0 f1 f2 f3 f4 f5 kd := ⟨hx, hm, hgk, ht0, ht1, ht2, ht3, ht4, ht5, hf0, hf1, hf2, hf3, hf4, hf5, hkd⟩
  have hk : ebFix2K R n0 t0 t1 t2 t3 t4 t5 f0 f1 f2 f3 f4 f5 kd := ⟨hb, k0, k1, k2, k3, trivial⟩
  exact ebFix_run w R hR A0 n0 cp0 w0 hn hm hx t0 t1 t2 t3 t4 t5 f0 f1 f2 f3 f4 f5 kd ht0 ht1 ht2 ht3 ht4 ht5 hf0 hf1 hf2 hf3 hf4 hf5 hkd hgk 3 (by omega) ebFix2L (ac (ebFix2e0_ok R hR n0 t0 t1 t2 t3 t4 t5 f0 f1 f2 f3 f4 f5 kd hk) (ac (ebFix2e1_ok R hR n0 t0 t1 t2 t3 t4 t5 f0 f1 f2 f3 f4 f5 kd hk) (ac (ebFix2e10_ok R hR n0 t0 t1 t2 t3 t4 t5 f0 f1 f2 f3 f4 f5 kd hk) (ac (ebFixs10_ok R hR n0 t0 t1 t2 t3 t4 t5 f0 f1 f2 f3 f4 f5 kd hb k0) (ebFixG_ok R hR n0 t0 t1 t2 t3 t4 t5 f0 f1 f2 f3 f4 f5 kd hb))))) (by kernel_rfl)
abbrev ebFix3K (R : Nat → Int) (n0 : Nat) (t0 t1 t2 t3 t4 t5 f0 f1 f2 f3 f4 f5 kd : Int) : Prop := ebFixB R n0 t0 t1 t2 t3 t4 t5 f0 f1 f2 f3 f4 f5 kd ∧ ((((kd / 256) * 256) + (kd % 256)) = kd) ∧ (¬ (n0 = 1)) ∧ (¬ (n0 = 2)) ∧ (¬ (n0 = 3)) ∧ (n0 = 4) ∧ True
def ebFix3e0 : Ent := .bin .lss (.chan (some 13)) (.int .i64 1536) (.bool false)
theorem ebFix3e0_ok (R : Nat → Int) (hR : ∀ j, 0 ≤ R j ∧ R j ≤ 255) (n0 : Nat) (t0 t1 t2 t3 t4 t5 f0 f1 f2 f3 f4 f5 kd : Int) (hk : ebFix3K R n0 t0 t1 t2 t3 t4 t5 f0 f1 f2 f3 f4 f5 kd) : @EntOK (ebFixV R hR n0 t0 t1 t2 t3 t4 t5 f0 f1 f2 f3 f4 f5 kd) Try.prog ebFix3e0 := by
  letI : Env := (ebFixV R hR n0 t0 t1 t2 t3 t4 t5 f0 f1 f2 f3 f4 f5 kd)
  obtain ⟨hb, k0, k1, k2, k3, k4, _⟩ := hk; exact entCmp (k := .i64) (a := kd) (b := 1536) rfl rfl (by show some (decide ((kd : Int) < 1536)) = some false; rw [decide_eq_false (by first | omega | (simp only [sumVal, oct.sumF, oct.F, oct.ws]; omega))])
def ebFix3e1 : Ent := .bin .gtr (.chan (some 13)) (.int .i64 65535) (.bool false)
theorem ebFix3e1_ok (R : Nat → Int) (hR : ∀ j, 0 ≤ R j ∧ R j ≤ 255) (n0 : Nat) (t0 t1 t2 t3 t4 t5 f0 f1 f2 f3 f4 f5 kd : Int) (hk : ebFix3K R n0 t0 t1 t2 t3 t4 t5 f0 f1 f2 f3 f4 f5 kd) : @EntOK (ebFixV R hR n0 t0 t1 t2 t3 t4 t5 f0 f1 f2 f3 f4 f5 kd) Try.prog ebFix3e1 := by
  letI : Env := (ebFixV R hR n0 t0 t1 t2 t3 t4 t5 f0 f1 f2 f3 f4 f5 kd)
  obtain ⟨hb, k0, k1, k2, k3, k4, _⟩ := hk; exact entCmp (k := .i64) (a := kd) (b := 65535) rfl rfl (by show some (decide ((kd : Int) > 65535)) = some false; rw [decide_eq_false (by first | omega | (simp only [sumVal, oct.sumF, oct.F, oct.ws]; omega))])
def ebFix3e10 : Ent := .bin .lss (.chan (some 21)) (.int .i64 1536) (.bool false)
theorem ebFix3e10_ok (R : Nat → Int) (hR : ∀ j, 0 ≤ R j ∧ R j ≤ 255) (n0 : Nat) (t0 t1 t2 t3 t4 t5 f0 f1 f2 f3 f4 f5 kd : Int) (hk : ebFix3K R n0 t0 t1 t2 t3 t4 t5 f0 f1 f2 f3 f4 f5 kd) : @EntOK (ebFixV R hR n0 t0 t1 t2 t3 t4 t5 f0 f1 f2 f3 f4 f5 kd) Try.prog ebFix3e10 := by
  letI : Env := (ebFixV R hR n0 t0 t1 t2 t3 t4 t5 f0 f1 f2 f3 f4 f5 kd)
  obtain ⟨hb, k0, k1, k2, k3, k4, _⟩ := hk; exact entCmp (k := .i64) (a := (((kd / 256) * 256) + (kd % 256))) (b := 1536) rfl rfl (by show some (decide (((((kd / 256) * 256) + (kd % 256)) : Int) < 1536)) = some false; rw [decide_eq_false (by first | omega | (simp only [sumVal, oct.sumF, oct.F, oct.ws]; omega))])
abbrev ebFix3L : List Ent := ebFix3e0 :: ebFix3e1 :: ebFix3e10 :: ebFixs10 :: ebFixG
theorem ebFix3 (w : World) (R : Nat → Int) (hR : ∀ j, 0 ≤ R j ∧ R j ≤ 255) (A0 : Addr) (n0 cp0 : Nat) (w0 : RowIn R 1048576 w A0 n0 cp0) (hn : n0 ≤ 70000) (hm : 1 ≤ n0) (hx : n0 < 46) (t0 t1 t2 t3 t4 t5 f0 f1 f2 f3 f4 f5 kd : Int) (ht0 : 0 ≤ t0 ∧ t0 ≤ 255) (ht1 : 0 ≤ t1 ∧ t1 ≤ 255) (ht2 : 0 ≤ t2 ∧ t2 ≤ 255) (ht3 : 0 ≤ t3 ∧ t3 ≤ 255) (ht4 : 0 ≤ t4 ∧ t4 ≤ 255) (ht5 : 0 ≤ t5 ∧ t5 ≤ 255) (hf0 : 0 ≤ f0 ∧ f0 ≤ 255) (hf1 : 0 ≤ f1 ∧ f1 ≤ 255) (hf2 : 0 ≤ f2 ∧ f2 ≤ 255) (hf3 : 0 ≤ f3 ∧ f3 ≤ 255) (hf4 : 0 ≤ f4 ∧ f4 ≤ 255) (hf5 : 0 ≤ f5 ∧ f5 ≤ 255) (hkd : (-9223372036854775808) ≤ kd ∧ kd ≤ 9223372036854775807) (hgk : 1536 ≤ kd ∧ kd ≤ 65535) (k0 : (((kd / 256) * 256) + (kd % 256)) = kd) (k1 : ¬ (n0 = 1)) (k2 : ¬ (n0 = 2)) (k3 : ¬ (n0 = 3)) (k4 : n0 = 4) : Calls Try.prog 5 #[.agg #[.int .u8 t0, .int .u8 t1, .int .u8 t2, .int .u8 t3, .int .u8 t4, .int .u8 t5, .int .u8 f0, .int .u8 f1, .int .u8 f2, .int .u8 f3, .int .u8 f4, .int .u8 f5, .int .i64 kd, .slice (some A0) n0 cp0]] w (fun e w' => e = .returned (.bool true) ∧ Only [] w w') := by
  letI : Env := (ebFixV R hR n0 t0 t1 t2 t3 t4 t5 f0 f1 f2 f3 f4 f5 kd)
  have hb : ebFixB R n0 t0 t1 t2 t3 t4 t5 f0 f1 f2 f3 f4 f5 kd := ⟨hx, hm, hgk, ht0, ht1, ht2, ht3, ht4, ht5, hf0, hf1, hf2, hf3, hf4, hf5, hkd⟩
  have hk : ebFix3K R n0 t0 t1 t2 t3 t4 t5 f0 f1 f2 f3 f4 f5 kd := ⟨hb, k0, k1, k2, k3, k4, trivial⟩
  exact ebFix_run w R hR A0 n0 cp0 w0 hn hm hx t0 t1 t2 t3 t4 t5 f0 f1 f2 f3 f4 f5 kd ht0 ht1 ht2 ht3 ht4 ht5 hf0 hf1 hf2 hf3 hf4 hf5 hkd hgk 4 (by omega) ebFix3L (ac (ebFix3e0_ok R hR n0 t0 t1 t2 t3 t4 t5 f0 f1 f2 f3 f4 f5 kd hk) (ac (ebFix3e1_ok R hR n0 t0 t1 t2 t3 t4 t5 f0 f1 f2 f3 f4 f5 kd hk) (ac (ebFix3e10_ok R hR n0 t0 t1 t2 t3 t4 t5 f0 f1 f2 f3 f4 f5 kd hk) (ac (ebFixs10_ok R hR n0 t0 t1 t2 t3 t4 t5 f0 f1 f2 f3 f4 f5 kd hb k0) (ebFixG_ok R hR n0 t0 t1 t2 t3 t4 t5 f0 f1 f2 f3 f4 f5 kd hb))))) (by kernel_rfl)
abbrev ebFix4K (R : Nat → Int) (n0 : Nat) (t0 t1 t2 t3 t4 t5 f0 f1 f2 f3 f4 f5 kd : Int) : Prop := ebFixB R n0 t0 t1 t2 t3 t4 t5 f0 f1 f2 f3 f4 f5 kd ∧ ((((kd / 256) * 256) + (kd % 256)) = kd) ∧ (¬ (n0 = 1)) ∧ (¬ (n0 = 2)) ∧ (¬ (n0 = 3)) ∧ (¬ (n0 = 4)) ∧ (n0 = 5) ∧ True
def ebFix4e0 : Ent := .bin .lss (.chan (some 13)) (.int .i64 1536) (.bool false)
theorem ebFix4e0_ok (R : Nat → Int) (hR : ∀ j, 0 ≤ R j ∧ R j ≤ 255) (n0 : Nat) (t0 t1 t2 t3 t4 t5 f0 f1 f2 f3 f4 f5 kd : Int) (hk : ebFix4K R n0 t0 t1 t2 t3 t4 t5 f0 f1 f2 f3 f4 f5 kd) : @EntOK (ebFixV R hR n0 t0 t1 t2 t3 t4 t5 f0 f1 f2 f3 f4 f5 kd) Try.prog ebFix4e0 := by
  letI : Env := (ebFixV R hR n0 t0 t1 t2 t3 t4 t5 f0 f1 f2 f3 f4 f5 kd)
  obtain ⟨hb, k0, k1, k2, k3, k4, k5, _⟩ := hk; exact entCmp (k := .i64) (a := kd) (b := 1536) rfl rfl (by show some (decide ((kd : Int) < 1536)) = some false; rw [decide_eq_false (by first | omega | (simp only [sumVal, oct.sumF, oct.F, oct.ws]; omega))])
def ebFix4e1 : Ent := .bin .gtr (.chan (some 13)) (.int .i64 65535) (.bool false)
theorem ebFix4e1_ok (R : Nat → Int) (hR : ∀ j, 0 ≤ R j ∧ R j ≤ 255) (n0 : Nat) (t0 t1 t2 t3 t4 t5 f0 f1 f2 f3 f4 f5 kd : Int) (hk : ebFix4K R n0 t0 t1 t2 t3 t4 t5 f0 f1 f2 f3 f4 f5 kd) : @EntOK (ebFixV R hR n0 t0 t1 t2 t3 t4 t5 f0 f1 f2 f3 f4 f5 kd) Try.prog ebFix4e1 := by
  letI : Env := (ebFixV R hR n0 t0 t1 t2 t3 t4 t5 f0 f1 f2 f3 f4 f5 kd)
  obtain ⟨hb, k0, k1, k2, k3, k4, k5, _⟩ := hk; exact entCmp (k := .i64) (a := kd) (b := 65535) rfl rfl (by show some (decide ((kd : Int) > 65535)) = some false; rw [decide_eq_false (by first | omega | (simp only [sumVal, oct.sumF, oct.F, oct.ws]; omega))])
def ebFix4e10 : Ent := .bin .lss (.chan (some 21)) (.int .i64 1536) (.bool false)
theorem ebFix4e10_ok (R : Nat → Int) (hR : ∀ j, 0 ≤ R j ∧ R j ≤ 255) (n0 : Nat) (t0 t1 t2 t3 t4 t5 f0 f1 f2 f3 f4 f5 kd : Int) (hk : ebFix4K R n0 t0 t1 t2 t3 t4 t5 f0 f1 f2 f3 f4 f5 kd) : @EntOK (ebFixV R hR n0 t0 t1 t2 t3 t4 t5 f0 f1 f2 f3 f4 f5 kd) Try.prog ebFix4e10 := by
  letI : Env := (ebFixV R hR n0 t0 t1 t2 t3 t4 t5 f0 f1 f2 f3 f4 f5 kd)
  obtain ⟨hb, k0, k1, k2, k3, k4, k5, _⟩ := hk; exact entCmp (k := .i64) (a := (((kd / 256) * 256) + (kd % 256))) (b := 1536) rfl rfl (by show some (decide (((((kd / 256) * 256) + (kd % 256)) : Int) < 1536)) = some false; rw [decide_eq_false (by first | omega | (simp only [sumVal, oct.sumF, oct.F, oct.ws]; omega))])
abbrev ebFix4L : List Ent := ebFix4e0 :: ebFix4e1 :: ebFix4e10 :: ebFixs10 :: ebFixG
theorem ebFix4 (w : World) (R : Nat → Int) (hR : ∀ j, 0 ≤ R j ∧ R j ≤ 255) (A0 : Addr) (n0 cp0 : Nat) (w0 : RowIn R 1048576 w A0 n0 cp0) (hn : n0 ≤ 70000) (hm : 1 ≤ n0) (hx : n0 < 46) (t0 t1 t2 t3 t4 t5 f0 f1 f2 f3 f4 f5 kd : Int) (ht0 : 0 ≤ t0 ∧ t0 ≤ 255) (ht1 : 0 ≤ t1 ∧ t1 ≤ 255) (ht2 : 0 ≤ t2 ∧ t2 ≤ 255) (ht3 : 0 ≤ t3 ∧ t3 ≤ 255) (ht4 : 0 ≤ t4 ∧ t4 ≤ 255) (ht5 : 0 ≤ t5 ∧ t5 ≤ 255) (hf0 : 0 ≤ f0 ∧ f0 ≤ 255) (hf1 : 0 ≤ f1 ∧ f1 ≤ 255) (hf2 : 0 ≤ f2 ∧ f2 ≤ 255) (hf3 : 0 ≤ f3 ∧ f3 ≤ 255) (hf4 : 0 ≤ f4 ∧ f4 ≤ 255) (hf5 : 0 ≤ f5 ∧ f5 ≤ 255) (hkd : (-9223372036854775808) ≤ kd ∧ kd ≤ 9223372036854775807) (hgk : 1536 ≤ kd ∧ kd ≤ 65535) (k0 : (((kd / 256) * 256) + (kd % 256)) = kd) (k1 : ¬ (n0 = 1)) (k2 : ¬ (n0 = 2)) (k3 : ¬ (n0 = 3)) (k4 : ¬ (n0 = 4)) (k5 : n0 = 5) : Calls Try.prog 5 #[.agg #[.int .u8 t0, .int .u8 t1, .int .u8 t2, .int .u8 t3, .int .u8 t4, .int .u8 t5, .int .u8 f0, .int .u8 f1, .int .u8 f2, .int .u8 f3, .int .u8 f4, .int .u8 f5, .int .i64 kd, .slice (some A0) n0 cp0]] w (fun e w' => e = .returned (.bool true) ∧ Only [] w w') := by
  letI : Env := (ebFixV R hR n0 t0 t1 t2 t3 t4 t5 f0 f1 f2 f3 f4 f5 kd)
  have hb : ebFixB R n0 t0 t1 t2 t3 t4 t5 f0 f1 f2 f3 f4 f5 kd := ⟨hx, hm, hgk, ht0, ht1, ht2, ht3, ht4, ht5, hf0, hf1, hf2, hf3, hf4, hf5, hkd⟩
  have hk : ebFix4K R n0 t0 t1 t2 t3 t4 t5 f0 f1 f2 f3 f4 f5 kd := ⟨hb, k0, k1, k2, k3, k4, k5, trivial⟩
  exact ebFix_run w R hR A0 n0 cp0 w0 hn hm hx t0 t1 t2 t3 t4 t5 f0 f1 f2 f3 f4 f5 kd ht0 ht1 ht2 ht3 ht4 ht5 hf0 hf1 hf2 hf3 hf4 hf5 hkd hgk 5 (by omega) ebFix4L (ac (ebFix4e0_ok R hR n0 t0 t1 t2 t3 t4 t5 f0 f1 f2 f3 f4 f5 kd hk) (ac (ebFix4e1_ok R hR n0 t0 t1 t2 t3 t4 t5 f0 f1 f2 f3 f4 f5 kd hk) (ac (ebFix4e10_ok R hR n0 t0 t1 t2 t3 t4 t5 f0 f1 f2 f3 f4 f5 kd hk) (ac (ebFixs10_ok R hR n0 t0 t1 t2 t3 t4 t5 f0 f1 f2 f3 f4 f5 kd hb k0) (ebFixG_ok R hR n0 t0 t1 t2 t3 t4 t5 f0 f1 f2 f3 f4 f5 kd hb))))) (by kernel_rfl)
abbrev ebFix5K (R : Nat → Int) (n0 : Nat) (t0 t1 t2 t3 t4 t5 f0 f1 f2 f3 f4 f5 kd : Int) : Prop := ebFixB R n0 t0 t1 t2 t3 t4 t5 f0 f1 f2 f3 f4 f5 kd ∧ ((((kd / 256) * 256) + (kd % 256)) = kd) ∧ (¬ (n0 = 1)) ∧ (¬ (n0 = 2)) ∧ (¬ (n0 = 3)) ∧ (¬ (n0 = 4)) ∧ (¬ (n0 = 5)) ∧ (n0 = 6) ∧ True
def ebFix5e0 : Ent := .bin .lss (.chan (some 13)) (.int .i64 1536) (.bool false)
theorem ebFix5e0_ok (R : Nat → Int) (hR : ∀ j, 0 ≤ R j ∧ R j ≤ 255) (n0 : Nat) (t0 t1 t2 t3 t4 t5 f0 f1 f2 f3 f4 f5 kd : Int) (hk : ebFix5K R n0 t0 t1 t2 t3 t4 t5 f0 f1 f2 f3 f4 f5 kd) : @EntOK (ebFixV R hR n0 t0 t1 t2 t3 t4 t5 f0 f1 f2 f3 f4 f5 kd) Try.prog ebFix5e0 := by
  letI : Env := (ebFixV R hR n0 t0 t1 t2 t3 t4 t5 f0 f1 f2 f3 f4 f5 kd)
  obtain ⟨hb, k0, k1, k2, k3, k4, k5, k6, _⟩ := hk; exact entCmp (k := .i64) (a := kd) (b := 1536) rfl rfl (by show some (decide ((kd : Int) < 1536)) = some false; rw [decide_eq_false (by first | omega | (simp only [sumVal, oct.sumF, oct.F, oct.ws]; omega))])
def ebFix5e1 : Ent := .bin .gtr (.chan (some 13)) (.int .i64 65535) (.bool false)
theorem ebFix5e1_ok (R : Nat → Int) (hR : ∀ j, 0 ≤ R j ∧ R j ≤ 255) (n0 : Nat) (t0 t1 t2 t3 t4 t5 f0 f1 f2 f3 f4 f5 kd : Int) (hk : ebFix5K R n0 t0 t1 t2 t3 t4 t5 f0 f1 f2 f3 f4 f5 kd) : @EntOK (ebFixV R hR n0 t0 t1 t2 t3 t4 t5 f0 f1 f2 f3 f4 f5 kd) Try.prog ebFix5e1 := by
  letI : Env := (ebFixV R hR n0 t0 t1 t2 t3 t4 t5 f0 f1 f2 f3 f4 f5 kd)
  obtain ⟨hb, k0, k1, k2, k3, k4, k5, k6, _⟩ := hk; exact entCmp (k := .i64) (a := kd) (b := 65535) rfl rfl (by show some (decide ((kd : Int) > 65535)) = some false; rw [decide_eq_false (by first | omega | (simp only [sumVal, oct.sumF, oct.F, oct.ws]; omega))])
def ebFix5e10 : Ent := .bin .lss (.chan (some 21)) (.int .i64 1536) (.bool false)
theorem ebFix5e10_ok (R : Nat → Int) (hR : ∀ j, 0 ≤ R j ∧ R j ≤ 255) (n0 : Nat) (t0 t1 t2 t3 t4 t5 f0 f1 f2 f3 f4 f5 kd : Int) (hk : ebFix5K R n0 t0 t1 t2 t3 t4 t5 f0 f1 f2 f3 f4 f5 kd) : @EntOK (ebFixV R hR n0 t0 t1 t2 t3 t4 t5 f0 f1 f2 f3 f4 f5 kd) Try.prog ebFix5e10 := by
  letI : Env := (ebFixV R hR n0 t0 t1 t2 t3 t4 t5 f0 f1 f2 f3 f4 f5 kd)
  obtain ⟨hb, k0, k1, k2, k3, k4, k5, k6, _⟩ := hk; exact entCmp (k := .i64) (a := (((kd / 256) * 256) + (kd % 256))) (b := 1536) rfl rfl (by show some (decide (((((kd / 256) * 256) + (kd % 256)) : Int) < 1536)) = some false; rw [decide_eq_false (by first | omega | (simp only [sumVal, oct.sumF, oct.F, oct.ws]; omega))])
abbrev ebFix5L : List Ent := ebFix5e0 :: ebFix5e1 :: ebFix5e10 :: ebFixs10 :: ebFixG
theorem ebFix5 (w : World) (R : Nat → Int) (hR : ∀ j, 0 ≤ R j ∧ R j ≤ 255) (A0 : Addr) (n0 cp0 : Nat) (w0 : RowIn R 1048576 w A0 n0 cp0) (hn : n0 ≤ 70000) (hm : 1 ≤ n0) (hx : n0 < 46) (t0 t1 t2 t3 t4 t5 f0 f1 f2 f3 f4 f5 kd : Int) (ht0 : 0 ≤ t0 ∧ t0 ≤ 255) (ht1 : 0 ≤ t1 ∧ t1 ≤ 255) (ht2 : 0 ≤ t2 ∧ t2 ≤ 255) (ht3 : 0 ≤ t3 ∧ t3 ≤ 255) (ht4 : 0 ≤ t4 ∧ t4 ≤ 255) (ht5 : 0 ≤ t5 ∧ t5 ≤ 255) (hf0 : 0 ≤ f0 ∧ f0 ≤ 255) (hf1 : 0 ≤ f1 ∧ f1 ≤ 255) (hf2 : 0 ≤ f2 ∧ f2 ≤ 255) (hf3 : 0 ≤ f3 ∧ f3 ≤ 255) (hf4 : 0 ≤ f4 ∧ f4 ≤ 255) (hf5 : 0 ≤ f5 ∧ f5 ≤ 255) (hkd : (-9223372036854775808) ≤ kd ∧ kd ≤ 9223372036854775807) (hgk : 1536 ≤ kd ∧ kd ≤ 65535) (k0 : (((kd / 256) * 256) + (kd % 256)) = kd) (k1 : ¬ (n0 = 1)) (k2 : ¬ (n0 = 2)) (k3 : ¬ (n0 = 3)) (k4 : ¬ (n0 = 4)) (k5 : ¬ (n0 = 5)) (k6 : n0 = 6) : Calls Try.prog 5 #[.agg #[.int .u8 t0, .int .u8 t1, .int .u8 t2, .int .u8 t3, .int .u8 t4, .int .u8 t5, .int .u8 f0, .int .u8 f1, .int .u8 f2, .int .u8 f3, .int .u8 f4, .int .u8 f5, .int .i64 kd, .slice (some A0) n0 cp0]] w (fun e w' => e = .returned (.bool true) ∧ Only [] w w') := by
  letI : Env := (ebFixV R hR n0 t0 t1 t2 t3 t4 t5 f0 f1 f2 f3 f4 f5 kd)
  have hb : ebFixB R n0 t0 t1 t2 t3 t4 t5 f0 f1 f2 f3 f4 f5 kd := ⟨hx, hm, hgk, ht0, ht1, ht2, ht3, ht4, ht5, hf0, hf1, hf2, hf3, hf4, hf5, hkd⟩
  have hk : ebFix5K R n0 t0 t1 t2 t3 t4 t5 f0 f1 f2 f3 f4 f5 kd := ⟨hb, k0, k1, k2, k3, k4, k5, k6, trivial⟩
  exact ebFix_run w R hR A0 n0 cp0 w0 hn hm hx t0 t1 t2 t3 t4 t5 f0 f1 f2 f3 f4 f5 kd ht0 ht1 ht2 ht3 ht4 ht5 hf0 hf1 hf2 hf3 hf4 hf5 hkd hgk 6 (by omega) ebFix5L (ac (ebFix5e0_ok R hR n0 t0 t1 t2 t3 t4 t5 f0 f1 f2 f3 f4 f5 kd hk) (ac (ebFix5e1_ok R hR n0 t0 t1 t2 t3 t4 t5 f0 f1 f2 f3 f4 f5 kd hk) (ac (ebFix5e10_ok R hR n0 t0 t1 t2 t3 t4 t5 f0 f1 f2 f3 f4 f5 kd hk) (ac (ebFixs10_ok R hR n0 t0 t1 t2 t3 t4 t5 f0 f1 f2 f3 f4 f5 kd hb k0) (ebFixG_ok R hR n0 t0 t1 t2 t3 t4 t5 f0 f1 f2 f3 f4 f5 kd hb))))) (by kernel_rfl)
abbrev ebFix6K (R : Nat → Int) (n0 : Nat) (t0 t1 t2 t3 t4 t5 f0 f1 f2 f3 f4 f5 kd : Int) : Prop := ebFixB R n0 t0 t1 t2 t3 t4 t5 f0 f1 f2 f3 f4 f5 kd ∧ ((((kd / 256) * 256) + (kd % 256)) = kd) ∧ (¬ (n0 = 1)) ∧ (¬ (n0 = 2)) ∧ (¬ (n0 = 3)) ∧ (¬ (n0 = 4)) ∧ (¬ (n0 = 5)) ∧ (¬ (n0 = 6)) ∧ (n0 = 7) ∧ True
def ebFix6e0 : Ent := .bin .lss (.chan (some 13)) (.int .i64 1536) (.bool false)
theorem ebFix6e0_ok (R : Nat → Int) (hR : ∀ j, 0 ≤ R j ∧ R j ≤ 255) (n0 : Nat) (t0 t1 t2 t3 t4 t5 f0 f1 f2 f3 f4 f5 kd : Int) (hk : ebFix6K R n0 t0 t1 t2 t3 t4 t5 f0 f1 f2 f3 f4 f5 kd) : @EntOK (ebFixV R hR n0 t0 t1 t2 t3 t4 t5 f0 f1 f2 f3 f4 f5 kd) Try.prog ebFix6e0 := by
  letI : Env := (ebFixV R hR n0 t0 t1 t2 t3 t4 t5 f0 f1 f2 f3 f4 f5 kd)
  obtain ⟨hb, k0, k1, k2, k3, k4, k5, k6, k7, _⟩ := hk; exact entCmp (k := .i64) (a := kd) (b := 1536) rfl rfl (by show some (decide ((kd : Int) < 1536)) = some false; rw [decide_eq_false (by first | omega | (simp only [sumVal, oct.sumF, oct.F, oct.ws]; omega))])
def ebFix6e1 : Ent := .bin .gtr (.chan (some 13)) (.int .i64 65535) (.bool false)
theorem ebFix6e1_ok (R : Nat → Int) (hR : ∀ j, 0 ≤ R j ∧ R j ≤ 255) (n0 : Nat) (t0 t1 t2 t3 t4 t5 f0 f1 f2 f3 f4 f5 kd : Int) (hk : ebFix6K R n0 t0 t1 t2 t3 t4 t5 f0 f1 f2 f3 f4 f5 kd) : @EntOK (ebFixV R hR n0 t0 t1 t2 t3 t4 t5 f0 f1 f2 f3 f4 f5 kd) Try.prog ebFix6e1 := by
  letI : Env := (ebFixV R hR n0 t0 t1 t2 t3 t4 t5 f0 f1 f2 f3 f4 f5 kd)
  obtain ⟨hb, k0, k1, k2, k3, k4, k5, k6, k7, _⟩ := hk; exact entCmp (k := .i64) (a := kd) (b := 65535) rfl rfl (by show some (decide ((kd : Int) > 65535)) = some false; rw [decide_eq_false (by first | omega | (simp only [sumVal, oct.sumF, oct.F, oct.ws]; omega))])
def ebFix6e10 : Ent := .bin .lss (.chan (some 21)) (.int .i64 1536) (.bool false)
theorem ebFix6e10_ok (R : Nat → Int) (hR : ∀ j, 0 ≤ R j ∧ R j ≤ 255) (n0 : Nat) (t0 t1 t2 t3 t4 t5 f0 f1 f2 f3 f4 f5 kd : Int) (hk : ebFix6K R n0 t0 t1 t2 t3 t4 t5 f0 f1 f2 f3 f4 f5 kd) : @EntOK (ebFixV R hR n0 t0 t1 t2 t3 t4 t5 f0 f1 f2 f3 f4 f5 kd) Try.prog ebFix6e10 := by
  letI : Env := (ebFixV R hR n0 t0 t1 t2 t3 t4 t5 f0 f1 f2 f3 f4 f5 kd)
  obtain ⟨hb, k0, k1, k2, k3, k4, k5, k6, k7, _⟩ := hk; exact entCmp (k := .i64) (a := (((kd / 256) * 256) + (kd % 256))) (b := 1536) rfl rfl (by show some (decide (((((kd / 256) * 256) + (kd % 256)) : Int) < 1536)) = some false; rw [decide_eq_false (by first | omega | (simp only [sumVal, oct.sumF, oct.F, oct.ws]; omega))])
abbrev ebFix6L : List Ent := ebFix6e0 :: ebFix6e1 :: ebFix6e10 :: ebFixs10 :: ebFixG
theorem ebFix6 (w : World) (R : Nat → Int) (hR : ∀ j, 0 ≤ R j ∧ R j ≤ 255) (A0 : Addr) (n0 cp0 : Nat) (w0 : RowIn R 1048576 w A0 n0 cp0) (hn : n0 ≤ 70000) (hm : 1 ≤ n0) (hx : n0 < 46) (t0 t1 t2 t3 t4 t5 f0 f1 f2 f3 f4 f5 kd : Int) (ht0 : 0 ≤ t0 ∧ t0 ≤ 255) (ht1 : 0 ≤ t1 ∧ t1 ≤ 255) (ht2 : 0 ≤ t2 ∧ t2 ≤ 255) (ht3 : 0 ≤ t3 ∧ t3 ≤ 255) (ht4 : 0 ≤ t4 ∧ t4 ≤ 255) (ht5 : 0 ≤ t5 ∧ t5 ≤ 255) (hf0 : 0 ≤ f0 ∧ f0 ≤ 255) (hf1 : 0 ≤ f1 ∧ f1 ≤ 255) (hf2 : 0 ≤ f2 ∧ f2 ≤ 255) (hf3 : 0 ≤ f3 ∧ f3 ≤ 255) (hf4 : 0 ≤ f4 ∧ f4 ≤ 255) (hf5 : 0 ≤ f5 ∧ f5 ≤ 255) (hkd : (-9223372036854775808) ≤ kd ∧ kd ≤ 9223372036854775807) (hgk : 1536 ≤ kd ∧ kd ≤ 65535) (k0 : (((kd / 256) * 256) + (kd % 256)) = kd) (k1 : ¬ (n0 = 1)) (k2 : ¬ (n0 = 2)) (k3 : ¬ (n0 = 3)) (k4 : ¬ (n0 = 4)) (k5 : ¬ (n0 = 5)) (k6 : ¬ (n0 = 6)) (k7 : n0 = 7) : Calls Try.prog 5 #[.agg #[.int .u8 t0, .int .u8 t1, .int .u8 t2, .int .u8 t3, .int .u8 t4, .int .u8 t5, .int .u8 f0, .int .u8 f1, .int .u8 f2, .int .u8 f3, .int .u8 f4, .int .u8 f5, .int .i64 kd, .slice (some A0) n0 cp0]] w (fun e w' => e = .returned (.bool true) ∧ Only [] w w') := by
  letI : Env := (ebFixV R hR n0 t0 t1 t2 t3 t4 t5 f0 f1 f2 f3 f4 f5 kd)
  have hb : ebFixB R n0 t0 t1 t2 t3 t4 t5 f0 f1 f2 f3 f4 f5 kd := ⟨hx, hm, hgk, ht0, ht1, ht2, ht3, ht4, ht5, hf0, hf1, hf2, hf3, hf4, hf5, hkd⟩
  have hk : ebFix6K R n0 t0 t1 t2 t3 t4 t5 f0 f1 f2 f3 f4 f5 kd := ⟨hb, k0, k1, k2, k3, k4, k5, k6, k7, trivial⟩
  exact ebFix_run w R hR A0 n0 cp0 w0 hn hm hx t0 t1 t2 t3 t4 t5 f0 f1 f2 f3 f4 f5 kd ht0 ht1 ht2 ht3 ht4 ht5 hf0 hf1 hf2 hf3 hf4 hf5 hkd hgk 7 (by omega) ebFix6L (ac (ebFix6e0_ok R hR n0 t0 t1 t2 t3 t4 t5 f0 f1 f2 f3 f4 f5 kd hk) (ac (ebFix6e1_ok R hR n0 t0 t1 t2 t3 t4 t5 f0 f1 f2 f3 f4 f5 kd hk) (ac (ebFix6e10_ok R hR n0 t0 t1 t2 t3 t4 t5 f0 f1 f2 f3 f4 f5 kd hk) (ac (ebFixs10_ok R hR n0 t0 t1 t2 t3 t4 t5 f0 f1 f2 f3 f4 f5 kd hb k0) (ebFixG_ok R hR n0 t0 t1 t2 t3 t4 t5 f0 f1 f2 f3 f4 f5 kd hb))))) (by kernel_rfl)
end Go.Proofs.Ytiihhngddmboaaa.ev
