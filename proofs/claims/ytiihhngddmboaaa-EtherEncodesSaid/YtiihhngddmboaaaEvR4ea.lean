/-
  EtherEncodes, by a run of each path over rows of bytes that are not looked into. Conditions: none.
-/
import Derived.Test.YtiihhngddmboaaaEvRl
import Derived.Test.YtiihhngddmboaaaEvP4
import Derived.Test.YtiihhngddmboaaaHlp4
import Derived.Test.YtiihhngddmboaaaSpo4
import Derived.Test.YtiihhngddmboaaaEvV
import Derived.Test.YtiihhngddmboaaaEvBd
import Derived.Test.YtiihhngddmboaaaOrm
import Derived.Test.YtiihhngddmboaaaEvV
import Derived.KernelRfl
import Derived.DeepKeys
namespace Go.Proofs.Ytiihhngddmboaaa.ev
set_option maxRecDepth 1000000
set_option linter.unusedVariables false
set_option linter.unusedSimpArgs false
open Go.ChangeShapes Go.WideShapes Go.ChangeAt Go.RowKit Go.IntWalk Go.Lib
theorem ac [Env] {P : Program} {e : Ent} {l : List Ent} (h : EntOK P e) (k : ∀ x ∈ l, EntOK P x) : ∀ x ∈ e :: l, EntOK P x := allECons h k
theorem helpC : HelpC Try.prog ⟨12, 9, 13, 5⟩ :=
  ⟨hasBody_of (by kernel_rfl), hasBody_of (by kernel_rfl), hasBody_of (by kernel_rfl), fun w A B n m c d x y hx hy hn hm => hlp.same w A B n m c d x y hx hy hn hm, fun w A n c l hl hc hn => hlp.roomy w A n c l hl hc hn, fun w A B n cap d l hx hc hy hn => hlp.stands w A B n cap d l hx hc hy hn⟩
theorem eqMac (d : Nat) (a0 a1 a2 a3 a4 a5 : Int) (w : World) : (Op.equalIn (d + 2) 23 (.agg #[.int .u8 a0, .int .u8 a1, .int .u8 a2, .int .u8 a3, .int .u8 a4, .int .u8 a5]) (.agg #[.int .u8 a0, .int .u8 a1, .int .u8 a2, .int .u8 a3, .int .u8 a4, .int .u8 a5])).run Try.prog w = .ok true w := by
  have hu : Try.prog.underlying 23 = some (.array 6 5) := Try.underlying23
  rw [run_equalIn_array w (d + 1) _ _ hu (i := (Try.prog.info? 5).get!) (by kernel_rfl)]
  have hc : Try.prog.cellsOf 5 = 1 := by kernel_rfl
  have hp : ∀ (xs : Array Value) (j : Nat) (v : Value), xs[j]? = some v → (part 5 xs j).run Try.prog w = .ok v w := fun xs j v hv => by
    simp [part, Sem.run_bind, run_isAgg Try.underlying5, TypeDesc.isRow, hv]
  have he : ∀ (n : Int), (Op.equalIn (d + 1) 5 (.int .u8 n) (.int .u8 n)).run Try.prog w = .ok true w := fun n => by
    simp [Op.equalIn, Sem.run_bind, run_underlying Try.underlying5]
  rw [hc]
  simp only [show List.range 6 = [0, 1, 2, 3, 4, 5] from rfl, Op.eqItems, Nat.mul_one, Nat.zero_mul]
  have p0 := hp #[.int .u8 a0, .int .u8 a1, .int .u8 a2, .int .u8 a3, .int .u8 a4, .int .u8 a5] 0 (.int .u8 a0) rfl
  have p1 := hp #[.int .u8 a0, .int .u8 a1, .int .u8 a2, .int .u8 a3, .int .u8 a4, .int .u8 a5] 1 (.int .u8 a1) rfl
  have p2 := hp #[.int .u8 a0, .int .u8 a1, .int .u8 a2, .int .u8 a3, .int .u8 a4, .int .u8 a5] 2 (.int .u8 a2) rfl
  have p3 := hp #[.int .u8 a0, .int .u8 a1, .int .u8 a2, .int .u8 a3, .int .u8 a4, .int .u8 a5] 3 (.int .u8 a3) rfl
  have p4 := hp #[.int .u8 a0, .int .u8 a1, .int .u8 a2, .int .u8 a3, .int .u8 a4, .int .u8 a5] 4 (.int .u8 a4) rfl
  have p5 := hp #[.int .u8 a0, .int .u8 a1, .int .u8 a2, .int .u8 a3, .int .u8 a4, .int .u8 a5] 5 (.int .u8 a5) rfl
  simp only [Sem.run_bind, p0, p1, p2, p3, p4, p5, Result.andThen_ok, he, if_true, Sem.run_pure, Bool.not_true, Bool.false_eq_true, if_false]
theorem eqMACn (a0 a1 a2 a3 a4 a5 b0 b1 b2 b3 b4 b5 : Int) (h0 : a0 = b0) (h1 : a1 = b1) (h2 : a2 = b2) (h3 : a3 = b3) (h4 : a4 = b4) (h5 : a5 = b5) (o1 o2 : Operand) (w : World) :
    (do eqGuard .eql 23 o1 o2 (.agg #[.int .u8 a0, .int .u8 a1, .int .u8 a2, .int .u8 a3, .int .u8 a4, .int .u8 a5]) (.agg #[.int .u8 b0, .int .u8 b1, .int .u8 b2, .int .u8 b3, .int .u8 b4, .int .u8 b5]); Go.binOp .eql 23 (.agg #[.int .u8 a0, .int .u8 a1, .int .u8 a2, .int .u8 a3, .int .u8 a4, .int .u8 a5]) (.agg #[.int .u8 b0, .int .u8 b1, .int .u8 b2, .int .u8 b3, .int .u8 b4, .int .u8 b5]) : Sem Value).run Try.prog w = .ok (.bool true) w := by
  subst h0 h1 h2 h3 h4 h5
  have m := eqMac 9998 a0 a1 a2 a3 a4 a5 w
  go_simp
theorem eqMacD (d : Nat) (a0 a1 a2 a3 a4 a5 b0 b1 b2 b3 b4 b5 : Int) (w : World) : (Op.equalIn (d + 2) 23 (.agg #[.int .u8 a0, .int .u8 a1, .int .u8 a2, .int .u8 a3, .int .u8 a4, .int .u8 a5]) (.agg #[.int .u8 b0, .int .u8 b1, .int .u8 b2, .int .u8 b3, .int .u8 b4, .int .u8 b5])).run Try.prog w = .ok (decide (a0 = b0 ∧ a1 = b1 ∧ a2 = b2 ∧ a3 = b3 ∧ a4 = b4 ∧ a5 = b5)) w := by
  have hu : Try.prog.underlying 23 = some (.array 6 5) := Try.underlying23
  rw [run_equalIn_array w (d + 1) _ _ hu (i := (Try.prog.info? 5).get!) (by kernel_rfl)]
  have hc : Try.prog.cellsOf 5 = 1 := by kernel_rfl
  have hp : ∀ (xs : Array Value) (j : Nat) (v : Value), xs[j]? = some v → (part 5 xs j).run Try.prog w = .ok v w := fun xs j v hv => by
    simp [part, Sem.run_bind, run_isAgg Try.underlying5, TypeDesc.isRow, hv]
  have he : ∀ (n m : Int), (Op.equalIn (d + 1) 5 (.int .u8 n) (.int .u8 m)).run Try.prog w = .ok (n == m) w := fun n m => by
    simp [Op.equalIn, Sem.run_bind, run_underlying Try.underlying5]
  rw [hc]
  simp only [show List.range 6 = [0, 1, 2, 3, 4, 5] from rfl, Op.eqItems, Nat.mul_one, Nat.zero_mul]
  have p0 := hp #[.int .u8 a0, .int .u8 a1, .int .u8 a2, .int .u8 a3, .int .u8 a4, .int .u8 a5] 0 (.int .u8 a0) rfl
  have r0 := hp #[.int .u8 b0, .int .u8 b1, .int .u8 b2, .int .u8 b3, .int .u8 b4, .int .u8 b5] 0 (.int .u8 b0) rfl
  have p1 := hp #[.int .u8 a0, .int .u8 a1, .int .u8 a2, .int .u8 a3, .int .u8 a4, .int .u8 a5] 1 (.int .u8 a1) rfl
  have r1 := hp #[.int .u8 b0, .int .u8 b1, .int .u8 b2, .int .u8 b3, .int .u8 b4, .int .u8 b5] 1 (.int .u8 b1) rfl
  have p2 := hp #[.int .u8 a0, .int .u8 a1, .int .u8 a2, .int .u8 a3, .int .u8 a4, .int .u8 a5] 2 (.int .u8 a2) rfl
  have r2 := hp #[.int .u8 b0, .int .u8 b1, .int .u8 b2, .int .u8 b3, .int .u8 b4, .int .u8 b5] 2 (.int .u8 b2) rfl
  have p3 := hp #[.int .u8 a0, .int .u8 a1, .int .u8 a2, .int .u8 a3, .int .u8 a4, .int .u8 a5] 3 (.int .u8 a3) rfl
  have r3 := hp #[.int .u8 b0, .int .u8 b1, .int .u8 b2, .int .u8 b3, .int .u8 b4, .int .u8 b5] 3 (.int .u8 b3) rfl
  have p4 := hp #[.int .u8 a0, .int .u8 a1, .int .u8 a2, .int .u8 a3, .int .u8 a4, .int .u8 a5] 4 (.int .u8 a4) rfl
  have r4 := hp #[.int .u8 b0, .int .u8 b1, .int .u8 b2, .int .u8 b3, .int .u8 b4, .int .u8 b5] 4 (.int .u8 b4) rfl
  have p5 := hp #[.int .u8 a0, .int .u8 a1, .int .u8 a2, .int .u8 a3, .int .u8 a4, .int .u8 a5] 5 (.int .u8 a5) rfl
  have r5 := hp #[.int .u8 b0, .int .u8 b1, .int .u8 b2, .int .u8 b3, .int .u8 b4, .int .u8 b5] 5 (.int .u8 b5) rfl
  by_cases h0 : a0 = b0
  rotate_left
  · have e0 : (a0 == b0) = false := by simp [h0]
    have hd : decide (a0 = b0 ∧ a1 = b1 ∧ a2 = b2 ∧ a3 = b3 ∧ a4 = b4 ∧ a5 = b5) = false := by simp [h0]
    rw [hd]
    simp only [Sem.run_bind, p0, p1, p2, p3, p4, p5, r0, r1, r2, r3, r4, r5, Result.andThen_ok, he, e0, if_true, if_false, Bool.not_true, Bool.not_false, Bool.false_eq_true, Sem.run_pure]
  by_cases h1 : a1 = b1
  rotate_left
  · have e1 : (a1 == b1) = false := by simp [h1]
    have e0 : (a0 == b0) = true := by simp [h0]
    have hd : decide (a0 = b0 ∧ a1 = b1 ∧ a2 = b2 ∧ a3 = b3 ∧ a4 = b4 ∧ a5 = b5) = false := by simp [h1]
    rw [hd]
    simp only [Sem.run_bind, p0, p1, p2, p3, p4, p5, r0, r1, r2, r3, r4, r5, Result.andThen_ok, he, e0, e1, if_true, if_false, Bool.not_true, Bool.not_false, Bool.false_eq_true, Sem.run_pure]
  by_cases h2 : a2 = b2
  rotate_left
  · have e2 : (a2 == b2) = false := by simp [h2]
    have e0 : (a0 == b0) = true := by simp [h0]
    have e1 : (a1 == b1) = true := by simp [h1]
    have hd : decide (a0 = b0 ∧ a1 = b1 ∧ a2 = b2 ∧ a3 = b3 ∧ a4 = b4 ∧ a5 = b5) = false := by simp [h2]
    rw [hd]
    simp only [Sem.run_bind, p0, p1, p2, p3, p4, p5, r0, r1, r2, r3, r4, r5, Result.andThen_ok, he, e0, e1, e2, if_true, if_false, Bool.not_true, Bool.not_false, Bool.false_eq_true, Sem.run_pure]
  by_cases h3 : a3 = b3
  rotate_left
  · have e3 : (a3 == b3) = false := by simp [h3]
    have e0 : (a0 == b0) = true := by simp [h0]
    have e1 : (a1 == b1) = true := by simp [h1]
    have e2 : (a2 == b2) = true := by simp [h2]
    have hd : decide (a0 = b0 ∧ a1 = b1 ∧ a2 = b2 ∧ a3 = b3 ∧ a4 = b4 ∧ a5 = b5) = false := by simp [h3]
    rw [hd]
    simp only [Sem.run_bind, p0, p1, p2, p3, p4, p5, r0, r1, r2, r3, r4, r5, Result.andThen_ok, he, e0, e1, e2, e3, if_true, if_false, Bool.not_true, Bool.not_false, Bool.false_eq_true, Sem.run_pure]
  by_cases h4 : a4 = b4
  rotate_left
  · have e4 : (a4 == b4) = false := by simp [h4]
    have e0 : (a0 == b0) = true := by simp [h0]
    have e1 : (a1 == b1) = true := by simp [h1]
    have e2 : (a2 == b2) = true := by simp [h2]
    have e3 : (a3 == b3) = true := by simp [h3]
    have hd : decide (a0 = b0 ∧ a1 = b1 ∧ a2 = b2 ∧ a3 = b3 ∧ a4 = b4 ∧ a5 = b5) = false := by simp [h4]
    rw [hd]
    simp only [Sem.run_bind, p0, p1, p2, p3, p4, p5, r0, r1, r2, r3, r4, r5, Result.andThen_ok, he, e0, e1, e2, e3, e4, if_true, if_false, Bool.not_true, Bool.not_false, Bool.false_eq_true, Sem.run_pure]
  by_cases h5 : a5 = b5
  rotate_left
  · have e5 : (a5 == b5) = false := by simp [h5]
    have e0 : (a0 == b0) = true := by simp [h0]
    have e1 : (a1 == b1) = true := by simp [h1]
    have e2 : (a2 == b2) = true := by simp [h2]
    have e3 : (a3 == b3) = true := by simp [h3]
    have e4 : (a4 == b4) = true := by simp [h4]
    have hd : decide (a0 = b0 ∧ a1 = b1 ∧ a2 = b2 ∧ a3 = b3 ∧ a4 = b4 ∧ a5 = b5) = false := by simp [h5]
    rw [hd]
    simp only [Sem.run_bind, p0, p1, p2, p3, p4, p5, r0, r1, r2, r3, r4, r5, Result.andThen_ok, he, e0, e1, e2, e3, e4, e5, if_true, if_false, Bool.not_true, Bool.not_false, Bool.false_eq_true, Sem.run_pure]
  have e0 : (a0 == b0) = true := by simp [h0]
  have e1 : (a1 == b1) = true := by simp [h1]
  have e2 : (a2 == b2) = true := by simp [h2]
  have e3 : (a3 == b3) = true := by simp [h3]
  have e4 : (a4 == b4) = true := by simp [h4]
  have e5 : (a5 == b5) = true := by simp [h5]
  have hd : decide (a0 = b0 ∧ a1 = b1 ∧ a2 = b2 ∧ a3 = b3 ∧ a4 = b4 ∧ a5 = b5) = true := by simp [h0, h1, h2, h3, h4, h5]
  rw [hd]
  simp only [Sem.run_bind, p0, p1, p2, p3, p4, p5, r0, r1, r2, r3, r4, r5, Result.andThen_ok, he, e0, e1, e2, e3, e4, e5, if_true, if_false, Bool.not_true, Bool.not_false, Bool.false_eq_true, Sem.run_pure]
theorem eqMACd (a0 a1 a2 a3 a4 a5 b0 b1 b2 b3 b4 b5 : Int) (r : Bool) (hr : decide (a0 = b0 ∧ a1 = b1 ∧ a2 = b2 ∧ a3 = b3 ∧ a4 = b4 ∧ a5 = b5) = r) (o1 o2 : Operand) (w : World) :
    (do eqGuard .eql 23 o1 o2 (.agg #[.int .u8 a0, .int .u8 a1, .int .u8 a2, .int .u8 a3, .int .u8 a4, .int .u8 a5]) (.agg #[.int .u8 b0, .int .u8 b1, .int .u8 b2, .int .u8 b3, .int .u8 b4, .int .u8 b5]); Go.binOp .eql 23 (.agg #[.int .u8 a0, .int .u8 a1, .int .u8 a2, .int .u8 a3, .int .u8 a4, .int .u8 a5]) (.agg #[.int .u8 b0, .int .u8 b1, .int .u8 b2, .int .u8 b3, .int .u8 b4, .int .u8 b5]) : Sem Value).run Try.prog w = .ok (.bool r) w := by
  have m := eqMacD 9998 a0 a1 a2 a3 a4 a5 b0 b1 b2 b3 b4 b5 w
  rw [hr] at m
  go_simp
theorem neMACt (a0 a1 a2 a3 a4 a5 b0 b1 b2 b3 b4 b5 : Int) (hr : decide (a0 = b0 ∧ a1 = b1 ∧ a2 = b2 ∧ a3 = b3 ∧ a4 = b4 ∧ a5 = b5) = true) (o1 o2 : Operand) (w : World) :
    (do eqGuard .neq 23 o1 o2 (.agg #[.int .u8 a0, .int .u8 a1, .int .u8 a2, .int .u8 a3, .int .u8 a4, .int .u8 a5]) (.agg #[.int .u8 b0, .int .u8 b1, .int .u8 b2, .int .u8 b3, .int .u8 b4, .int .u8 b5]); Go.binOp .neq 23 (.agg #[.int .u8 a0, .int .u8 a1, .int .u8 a2, .int .u8 a3, .int .u8 a4, .int .u8 a5]) (.agg #[.int .u8 b0, .int .u8 b1, .int .u8 b2, .int .u8 b3, .int .u8 b4, .int .u8 b5]) : Sem Value).run Try.prog w = .ok (.bool false) w := by
  have m := eqMacD 9998 a0 a1 a2 a3 a4 a5 b0 b1 b2 b3 b4 b5 w
  rw [hr] at m
  go_simp
theorem neMACf (a0 a1 a2 a3 a4 a5 b0 b1 b2 b3 b4 b5 : Int) (hr : decide (a0 = b0 ∧ a1 = b1 ∧ a2 = b2 ∧ a3 = b3 ∧ a4 = b4 ∧ a5 = b5) = false) (o1 o2 : Operand) (w : World) :
    (do eqGuard .neq 23 o1 o2 (.agg #[.int .u8 a0, .int .u8 a1, .int .u8 a2, .int .u8 a3, .int .u8 a4, .int .u8 a5]) (.agg #[.int .u8 b0, .int .u8 b1, .int .u8 b2, .int .u8 b3, .int .u8 b4, .int .u8 b5]); Go.binOp .neq 23 (.agg #[.int .u8 a0, .int .u8 a1, .int .u8 a2, .int .u8 a3, .int .u8 a4, .int .u8 a5]) (.agg #[.int .u8 b0, .int .u8 b1, .int .u8 b2, .int .u8 b3, .int .u8 b4, .int .u8 b5]) : Sem Value).run Try.prog w = .ok (.bool true) w := by
  have m := eqMacD 9998 a0 a1 a2 a3 a4 a5 b0 b1 b2 b3 b4 b5 w
  rw [hr] at m
  go_simp
def headR (zs hd : List Int) (j : Nat) : Int := if j < 2097152 then zs.getD (j - 1048576) 0 else hd.getD (j - 2097152) 0
theorem headR_bd {zs hd : List Int} (h : ∀ n ∈ zs, (Lit.int .u8 n).wf = true) (hh : ∀ n ∈ hd, 0 ≤ n ∧ n ≤ 255) (j : Nat) : 0 ≤ headR zs hd j ∧ headR zs hd j ≤ 255 := by
  unfold headR
  split
  · rw [List.getD_eq_getElem?_getD]
    cases hz : zs[j - 1048576]? with
    | none => exact ⟨by decide, by decide⟩
    | some z => exact u8Bd (h z (List.mem_of_getElem? hz))
  · rw [List.getD_eq_getElem?_getD]
    cases hz : hd[j - 2097152]? with
    | none => exact ⟨by decide, by decide⟩
    | some z => exact hh z (List.mem_of_getElem? hz)
abbrev eeRowV (R : Nat → Int) (hR : ∀ j, 0 ≤ R j ∧ R j ≤ 255) (n0 : Nat) (kd : Int) : Env := envR [.int .i64 (n0 : Int), .int .i64 kd, .int .u64 kd, .int .u64 (kd / 256), .int .u8 (kd / 256), .int .u8 (kd % 256), .int .i64 (46 - (n0 : Int)), .int .i64 (kd / 256), .int .i64 ((n0 : Int) + 14)] R hR
abbrev eeRowB (R : Nat → Int) (n0 : Nat) (kd : Int) : Prop := n0 ≤ 70000 ∧ 46 ≤ n0 ∧ (1536 ≤ kd ∧ kd ≤ 65535) ∧ (R 2097164 = kd / 256) ∧ (R 2097165 = kd % 256)
def eeRows0 : Ent := .bin .gtr (.chan (some 0)) (.int .i64 2000) (.bool true)
theorem eeRows0_ok (R : Nat → Int) (hR : ∀ j, 0 ≤ R j ∧ R j ≤ 255) (n0 : Nat) (kd : Int) (hb : eeRowB R n0 kd) (hc : (n0 : Int) > 2000) : @EntOK (eeRowV R hR n0 kd) Try.prog eeRows0 := by
  letI : Env := eeRowV R hR n0 kd
  exact entCmp (k := .i64) (a := (n0 : Int)) (b := 2000) rfl rfl (by show some (decide (((n0 : Int) : Int) > 2000)) = some true; rw [decide_eq_true (by first | omega | (simp only [sumVal, oct.sumF, oct.F, oct.ws]; omega))])
def eeRows1 : Ent := .bin .gtr (.chan (some 0)) (.int .i64 2000) (.bool false)
theorem eeRows1_ok (R : Nat → Int) (hR : ∀ j, 0 ≤ R j ∧ R j ≤ 255) (n0 : Nat) (kd : Int) (hb : eeRowB R n0 kd) (hc : ¬ ((n0 : Int) > 2000)) : @EntOK (eeRowV R hR n0 kd) Try.prog eeRows1 := by
  letI : Env := eeRowV R hR n0 kd
  exact entCmp (k := .i64) (a := (n0 : Int)) (b := 2000) rfl rfl (by show some (decide (((n0 : Int) : Int) > 2000)) = some false; rw [decide_eq_false (by first | omega | (simp only [sumVal, oct.sumF, oct.F, oct.ws]; omega))])
def eeRows2 : Ent := .bin .gtr (.chan (some 0)) (.int .i64 1500) (.bool true)
theorem eeRows2_ok (R : Nat → Int) (hR : ∀ j, 0 ≤ R j ∧ R j ≤ 255) (n0 : Nat) (kd : Int) (hb : eeRowB R n0 kd) (hc : (n0 : Int) > 1500) : @EntOK (eeRowV R hR n0 kd) Try.prog eeRows2 := by
  letI : Env := eeRowV R hR n0 kd
  exact entCmp (k := .i64) (a := (n0 : Int)) (b := 1500) rfl rfl (by show some (decide (((n0 : Int) : Int) > 1500)) = some true; rw [decide_eq_true (by first | omega | (simp only [sumVal, oct.sumF, oct.F, oct.ws]; omega))])
def eeRows3 : Ent := .bin .gtr (.chan (some 0)) (.int .i64 1500) (.bool false)
theorem eeRows3_ok (R : Nat → Int) (hR : ∀ j, 0 ≤ R j ∧ R j ≤ 255) (n0 : Nat) (kd : Int) (hb : eeRowB R n0 kd) (hc : ¬ ((n0 : Int) > 1500)) : @EntOK (eeRowV R hR n0 kd) Try.prog eeRows3 := by
  letI : Env := eeRowV R hR n0 kd
  exact entCmp (k := .i64) (a := (n0 : Int)) (b := 1500) rfl rfl (by show some (decide (((n0 : Int) : Int) > 1500)) = some false; rw [decide_eq_false (by first | omega | (simp only [sumVal, oct.sumF, oct.F, oct.ws]; omega))])
def eeRows4 : Ent := .conv .u64 (.chan (some 1)) (.chan (some 2))
theorem eeRows4_ok (R : Nat → Int) (hR : ∀ j, 0 ≤ R j ∧ R j ≤ 255) (n0 : Nat) (kd : Int) (hb : eeRowB R n0 kd) : @EntOK (eeRowV R hR n0 kd) Try.prog eeRows4 := by
  letI : Env := eeRowV R hR n0 kd
  exact entConvV (k := .u64) (l := .i64) (a := kd) (c := kd) rfl rfl (by rw [IntWalk.u64_in _ (by first | omega | (simp only [sumVal, oct.sumF, oct.F, oct.ws]; omega))])
def eeRows5 : Ent := .bin .shr (.chan (some 2)) (.int .u64 8) (.chan (some 3))
theorem eeRows5_ok (R : Nat → Int) (hR : ∀ j, 0 ≤ R j ∧ R j ≤ 255) (n0 : Nat) (kd : Int) (hb : eeRowB R n0 kd) : @EntOK (eeRowV R hR n0 kd) Try.prog eeRows5 := by
  letI : Env := eeRowV R hR n0 kd
  exact entShrV (k := .u64) (l := .u64) (a := kd) (c := (kd / 256)) (s := 8) rfl rfl rfl (by decide) (by exact fdiv_nat _ 256)
def eeRows6 : Ent := .conv .u8 (.chan (some 3)) (.chan (some 2097164))
theorem eeRows6_ok (R : Nat → Int) (hR : ∀ j, 0 ≤ R j ∧ R j ≤ 255) (n0 : Nat) (kd : Int) (hb : eeRowB R n0 kd) : @EntOK (eeRowV R hR n0 kd) Try.prog eeRows6 := by
  letI : Env := eeRowV R hR n0 kd
  have rb2097164 := hR 2097164; exact entConvV (k := .u8) (l := .u64) (a := (kd / 256)) (c := (R 2097164)) rfl rfl (by rw [IntWalk.u8_in _ (by first | omega | (simp only [sumVal, oct.sumF, oct.F, oct.ws]; omega))]; omega)
def eeRows7 : Ent := .conv .u8 (.chan (some 2)) (.chan (some 2097165))
theorem eeRows7_ok (R : Nat → Int) (hR : ∀ j, 0 ≤ R j ∧ R j ≤ 255) (n0 : Nat) (kd : Int) (hb : eeRowB R n0 kd) : @EntOK (eeRowV R hR n0 kd) Try.prog eeRows7 := by
  letI : Env := eeRowV R hR n0 kd
  have rb2097165 := hR 2097165; exact entConvV (k := .u8) (l := .u64) (a := kd) (c := (R 2097165)) rfl rfl (by rw [IntKind.wrap_u8]; omega)
def eeRows8 : Ent := .bin .sub (.int .i64 46) (.chan (some 0)) (.chan (some 6))
theorem eeRows8_ok (R : Nat → Int) (hR : ∀ j, 0 ≤ R j ∧ R j ≤ 255) (n0 : Nat) (kd : Int) (hb : eeRowB R n0 kd) : @EntOK (eeRowV R hR n0 kd) Try.prog eeRows8 := by
  letI : Env := eeRowV R hR n0 kd
  exact entArith (k := .i64) (a := 46) (b := (n0 : Int)) (c := (46 - (n0 : Int))) rfl rfl rfl (by show some (IntKind.i64.wrap ((46 - (n0 : Int)))) = some (46 - (n0 : Int)); rw [IntWalk.i64_in _ (by first | omega | (simp only [sumVal, oct.sumF, oct.F, oct.ws]; omega))])
def eeRows9 : Ent := .bin .shr (.chan (some 1)) (.int .u64 8) (.chan (some 7))
theorem eeRows9_ok (R : Nat → Int) (hR : ∀ j, 0 ≤ R j ∧ R j ≤ 255) (n0 : Nat) (kd : Int) (hb : eeRowB R n0 kd) : @EntOK (eeRowV R hR n0 kd) Try.prog eeRows9 := by
  letI : Env := eeRowV R hR n0 kd
  exact entShrV (k := .i64) (l := .u64) (a := kd) (c := (kd / 256)) (s := 8) rfl rfl rfl (by decide) (by exact fdiv_nat _ 256)
def eeRows10 : Ent := .conv .u8 (.chan (some 7)) (.chan (some 2097164))
theorem eeRows10_ok (R : Nat → Int) (hR : ∀ j, 0 ≤ R j ∧ R j ≤ 255) (n0 : Nat) (kd : Int) (hb : eeRowB R n0 kd) : @EntOK (eeRowV R hR n0 kd) Try.prog eeRows10 := by
  letI : Env := eeRowV R hR n0 kd
  have rb2097164 := hR 2097164; exact entConvV (k := .u8) (l := .i64) (a := (kd / 256)) (c := (R 2097164)) rfl rfl (by rw [IntWalk.u8_in _ (by first | omega | (simp only [sumVal, oct.sumF, oct.F, oct.ws]; omega))]; omega)
def eeRows11 : Ent := .conv .u8 (.chan (some 1)) (.chan (some 2097165))
theorem eeRows11_ok (R : Nat → Int) (hR : ∀ j, 0 ≤ R j ∧ R j ≤ 255) (n0 : Nat) (kd : Int) (hb : eeRowB R n0 kd) : @EntOK (eeRowV R hR n0 kd) Try.prog eeRows11 := by
  letI : Env := eeRowV R hR n0 kd
  have rb2097165 := hR 2097165; exact entConvV (k := .u8) (l := .i64) (a := kd) (c := (R 2097165)) rfl rfl (by rw [IntKind.wrap_u8]; omega)
def eeRows12 : Ent := .slen 0 28 (.chan (some 8))
theorem eeRows12_ok (R : Nat → Int) (hR : ∀ j, 0 ≤ R j ∧ R j ≤ 255) (n0 : Nat) (kd : Int) (hb : eeRowB R n0 kd) : @EntOK (eeRowV R hR n0 kd) Try.prog eeRows12 := by
  letI : Env := eeRowV R hR n0 kd
  exact entSlen (n := n0) (j := 8) (c := ((n0 : Int) + 14)) rfl rfl (by simp; try omega) (by first | exact .inl rfl | (right; omega))
abbrev eeRowG : List Ent := [eeRows4, eeRows5, eeRows6, eeRows7, eeRows8, eeRows9, eeRows10, eeRows11, eeRows12]
theorem eeRowG_ok (R : Nat → Int) (hR : ∀ j, 0 ≤ R j ∧ R j ≤ 255) (n0 : Nat) (kd : Int) (hb : eeRowB R n0 kd) : ∀ e ∈ eeRowG, @EntOK (eeRowV R hR n0 kd) Try.prog e := by
  letI : Env := eeRowV R hR n0 kd
  exact (ac (eeRows4_ok R hR n0 kd hb) (ac (eeRows5_ok R hR n0 kd hb) (ac (eeRows6_ok R hR n0 kd hb) (ac (eeRows7_ok R hR n0 kd hb) (ac (eeRows8_ok R hR n0 kd hb) (ac (eeRows9_ok R hR n0 kd hb) (ac (eeRows10_ok R hR n0 kd hb) (ac (eeRows11_ok R hR n0 kd hb) (ac (eeRows12_ok R hR n0 kd hb) allENil)))))))))
set_option maxHeartbeats 4000000 in
theorem eeRow_run (w : World) (R : Nat → Int) (hR : ∀ j, 0 ≤ R j ∧ R j ≤ 255) (A0 : Addr) (n0 cp0 : Nat) (w0 : RowIn R 1048576 w A0 n0 cp0) (hn : n0 ≤ 70000) (hm : 1 ≤ n0) (hx : 46 ≤ n0) (kd : Int) (hkd : -9223372036854775808 ≤ kd ∧ kd ≤ 9223372036854775807) (hgk : 1536 ≤ kd ∧ kd ≤ 65535) (hq : (R 2097164 = kd / 256) ∧ (R 2097165 = kd % 256)) (m0 : Nat) (hm0 : m0 ≤ n0) (L : List Ent) (hents : ∀ e ∈ L, @EntOK (eeRowV R hR n0 kd) Try.prog e) (h : says (fxCall Try.prog (tabG Try.prog L) (spTwo (spSpoil 14 5 [0]) (spTwo (spHelp ⟨12, 9, 13, 5⟩ [0]) (spKnown 15))) 300 3 [.agg #[.chan (some 2097152), .chan (some 2097153), .chan (some 2097154), .chan (some 2097155), .chan (some 2097156), .chan (some 2097157), .chan (some 2097158), .chan (some 2097159), .chan (some 2097160), .chan (some 2097161), .chan (some 2097162), .chan (some 2097163), .chan (some 1), .slice (some ⟨0, 0, some 1⟩) m0 0]] 1 (mem1 (rowAo 1048576 0 m0 5))) = some true) : Calls Try.prog 3 #[.agg #[.int .u8 (R 2097152), .int .u8 (R 2097153), .int .u8 (R 2097154), .int .u8 (R 2097155), .int .u8 (R 2097156), .int .u8 (R 2097157), .int .u8 (R 2097158), .int .u8 (R 2097159), .int .u8 (R 2097160), .int .u8 (R 2097161), .int .u8 (R 2097162), .int .u8 (R 2097163), .int .i64 kd, .slice (some A0) n0 cp0]] w (fun e w' => e = .returned (.bool true) ∧ Only [] w w') := by
  letI : Env := (eeRowV R hR n0 kd)
  have hsp : SpOK Try.prog (spTwo (spSpoil 14 5 [0]) (spTwo (spHelp ⟨12, 9, 13, 5⟩ [0]) (spKnown 15))) := (spTwo_ok (spSpoil_ok (by
    intro q hq
    simp only [List.mem_cons, List.not_mem_nil, or_false] at hq
    subst hq
    rw [lenOf_eq (n := n0) rfl]; omega)) (spTwo_ok (spHelp_ok helpC (by
    intro q hq
    simp only [List.mem_cons, List.not_mem_nil, or_false] at hq
    subst hq
    rw [lenOf_eq (n := n0) rfl]; omega)) (spKnown_ok knownBody known)))
  refine lawR (tab := tabG Try.prog L) hsp (tabG_ok hents) (c0 := 1) (β0 := mp1 (rowIm A0 n0 cp0)) (w := w) h (sim1 rfl w0.lt (rowIn_ob w0 (by decide) rfl (by omega))) (fun i hi => ?_) ?_
  · match i, hi with
    | i + 1, _ => rfl
  · exact (PW.cons (PW.agg (PW.cons (.opq 2097152 rfl (fun b h => by cases h)) (PW.cons (.opq 2097153 rfl (fun b h => by cases h)) (PW.cons (.opq 2097154 rfl (fun b h => by cases h)) (PW.cons (.opq 2097155 rfl (fun b h => by cases h)) (PW.cons (.opq 2097156 rfl (fun b h => by cases h)) (PW.cons (.opq 2097157 rfl (fun b h => by cases h)) (PW.cons (.opq 2097158 rfl (fun b h => by cases h)) (PW.cons (.opq 2097159 rfl (fun b h => by cases h)) (PW.cons (.opq 2097160 rfl (fun b h => by cases h)) (PW.cons (.opq 2097161 rfl (fun b h => by cases h)) (PW.cons (.opq 2097162 rfl (fun b h => by cases h)) (PW.cons (.opq 2097163 rfl (fun b h => by cases h)) (PW.cons (.opq 1 rfl (fun b h => by cases h)) (PW.cons (rowIn_vr (m := m0) w0 rfl (by omega) (by omega) rfl) (PW.nil _)))))))))))))))) (PW.nil _))
abbrev eeRow0L : List Ent := eeRows0 :: eeRowG
theorem eeRow0 (w : World) (R : Nat → Int) (hR : ∀ j, 0 ≤ R j ∧ R j ≤ 255) (A0 : Addr) (n0 cp0 : Nat) (w0 : RowIn R 1048576 w A0 n0 cp0) (hn : n0 ≤ 70000) (hm : 1 ≤ n0) (hx : 46 ≤ n0) (kd : Int) (hkd : -9223372036854775808 ≤ kd ∧ kd ≤ 9223372036854775807) (hgk : 1536 ≤ kd ∧ kd ≤ 65535) (hq : (R 2097164 = kd / 256) ∧ (R 2097165 = kd % 256)) (k0 : (n0 : Int) > 2000) : Calls Try.prog 3 #[.agg #[.int .u8 (R 2097152), .int .u8 (R 2097153), .int .u8 (R 2097154), .int .u8 (R 2097155), .int .u8 (R 2097156), .int .u8 (R 2097157), .int .u8 (R 2097158), .int .u8 (R 2097159), .int .u8 (R 2097160), .int .u8 (R 2097161), .int .u8 (R 2097162), .int .u8 (R 2097163), .int .i64 kd, .slice (some A0) n0 cp0]] w (fun e w' => e = .returned (.bool true) ∧ Only [] w w') := by
  letI : Env := (eeRowV R hR n0 kd)
  have hb : eeRowB R n0 kd := ⟨hn, hx, hgk, hq⟩
  exact eeRow_run w R hR A0 n0 cp0 w0 hn hm hx kd hkd hgk hq 46 (by omega) eeRow0L (ac (eeRows0_ok R hR n0 kd hb k0) (eeRowG_ok R hR n0 kd hb)) (by kernel_rfl)
abbrev eeRow1K (R : Nat → Int) (n0 : Nat) (kd : Int) : Prop := eeRowB R n0 kd ∧ (¬ ((n0 : Int) > 2000)) ∧ ((n0 : Int) > 1500) ∧ True
def eeRow1e1 : Ent := .bin .lss (.chan (some 1)) (.int .i64 1536) (.bool false)
theorem eeRow1e1_ok (R : Nat → Int) (hR : ∀ j, 0 ≤ R j ∧ R j ≤ 255) (n0 : Nat) (kd : Int) (hk : eeRow1K R n0 kd) : @EntOK (eeRowV R hR n0 kd) Try.prog eeRow1e1 := by
  letI : Env := (eeRowV R hR n0 kd)
  obtain ⟨hb, k0, k1, _⟩ := hk; exact entCmp (k := .i64) (a := kd) (b := 1536) rfl rfl (by show some (decide ((kd : Int) < 1536)) = some false; rw [decide_eq_false (by first | omega | (simp only [sumVal, oct.sumF, oct.F, oct.ws]; omega))])
def eeRow1e2 : Ent := .bin .gtr (.chan (some 1)) (.int .i64 65535) (.bool false)
theorem eeRow1e2_ok (R : Nat → Int) (hR : ∀ j, 0 ≤ R j ∧ R j ≤ 255) (n0 : Nat) (kd : Int) (hk : eeRow1K R n0 kd) : @EntOK (eeRowV R hR n0 kd) Try.prog eeRow1e2 := by
  letI : Env := (eeRowV R hR n0 kd)
  obtain ⟨hb, k0, k1, _⟩ := hk; exact entCmp (k := .i64) (a := kd) (b := 65535) rfl rfl (by show some (decide ((kd : Int) > 65535)) = some false; rw [decide_eq_false (by first | omega | (simp only [sumVal, oct.sumF, oct.F, oct.ws]; omega))])
abbrev eeRow1L : List Ent := eeRows1 :: eeRow1e1 :: eeRow1e2 :: eeRows2 :: eeRowG
theorem eeRow1 (w : World) (R : Nat → Int) (hR : ∀ j, 0 ≤ R j ∧ R j ≤ 255) (A0 : Addr) (n0 cp0 : Nat) (w0 : RowIn R 1048576 w A0 n0 cp0) (hn : n0 ≤ 70000) (hm : 1 ≤ n0) (hx : 46 ≤ n0) (kd : Int) (hkd : -9223372036854775808 ≤ kd ∧ kd ≤ 9223372036854775807) (hgk : 1536 ≤ kd ∧ kd ≤ 65535) (hq : (R 2097164 = kd / 256) ∧ (R 2097165 = kd % 256)) (k0 : ¬ ((n0 : Int) > 2000)) (k1 : (n0 : Int) > 1500) : Calls Try.prog 3 #[.agg #[.int .u8 (R 2097152), .int .u8 (R 2097153), .int .u8 (R 2097154), .int .u8 (R 2097155), .int .u8 (R 2097156), .int .u8 (R 2097157), .int .u8 (R 2097158), .int .u8 (R 2097159), .int .u8 (R 2097160), .int .u8 (R 2097161), .int .u8 (R 2097162), .int .u8 (R 2097163), .int .i64 kd, .slice (some A0) n0 cp0]] w (fun e w' => e = .returned (.bool true) ∧ Only [] w w') := by
  letI : Env := (eeRowV R hR n0 kd)
  have hb : eeRowB R n0 kd := ⟨hn, hx, hgk, hq⟩
  have hk : eeRow1K R n0 kd := ⟨hb, k0, k1, trivial⟩
  exact eeRow_run w R hR A0 n0 cp0 w0 hn hm hx kd hkd hgk hq 46 (by omega) eeRow1L (ac (eeRows1_ok R hR n0 kd hb k0) (ac (eeRow1e1_ok R hR n0 kd hk) (ac (eeRow1e2_ok R hR n0 kd hk) (ac (eeRows2_ok R hR n0 kd hb k1) (eeRowG_ok R hR n0 kd hb))))) (by kernel_rfl)
abbrev eeRow2K (R : Nat → Int) (n0 : Nat) (kd : Int) : Prop := eeRowB R n0 kd ∧ (¬ ((n0 : Int) > 2000)) ∧ (¬ ((n0 : Int) > 1500)) ∧ True
def eeRow2e1 : Ent := .bin .lss (.chan (some 1)) (.int .i64 1536) (.bool false)
theorem eeRow2e1_ok (R : Nat → Int) (hR : ∀ j, 0 ≤ R j ∧ R j ≤ 255) (n0 : Nat) (kd : Int) (hk : eeRow2K R n0 kd) : @EntOK (eeRowV R hR n0 kd) Try.prog eeRow2e1 := by
  letI : Env := (eeRowV R hR n0 kd)
  obtain ⟨hb, k0, k1, _⟩ := hk; exact entCmp (k := .i64) (a := kd) (b := 1536) rfl rfl (by show some (decide ((kd : Int) < 1536)) = some false; rw [decide_eq_false (by first | omega | (simp only [sumVal, oct.sumF, oct.F, oct.ws]; omega))])
def eeRow2e2 : Ent := .bin .gtr (.chan (some 1)) (.int .i64 65535) (.bool false)
theorem eeRow2e2_ok (R : Nat → Int) (hR : ∀ j, 0 ≤ R j ∧ R j ≤ 255) (n0 : Nat) (kd : Int) (hk : eeRow2K R n0 kd) : @EntOK (eeRowV R hR n0 kd) Try.prog eeRow2e2 := by
  letI : Env := (eeRowV R hR n0 kd)
  obtain ⟨hb, k0, k1, _⟩ := hk; exact entCmp (k := .i64) (a := kd) (b := 65535) rfl rfl (by show some (decide ((kd : Int) > 65535)) = some false; rw [decide_eq_false (by first | omega | (simp only [sumVal, oct.sumF, oct.F, oct.ws]; omega))])
def eeRow2e9 : Ent := .mm true (.int .i64 0) (.chan (some 6)) (.int .i64 0)
theorem eeRow2e9_ok (R : Nat → Int) (hR : ∀ j, 0 ≤ R j ∧ R j ≤ 255) (n0 : Nat) (kd : Int) (hk : eeRow2K R n0 kd) : @EntOK (eeRowV R hR n0 kd) Try.prog eeRow2e9 := by
  letI : Env := (eeRowV R hR n0 kd)
  obtain ⟨hb, k0, k1, _⟩ := hk; exact entMmI (k := .i64) (a := 0) (b := (46 - (n0 : Int))) (c := 0) rfl rfl (by first | (simp; done) | (simp; omega) | (split <;> omega))
def eeRow2e14 : Ent := .bin .lss (.chan (some 8)) (.int .i64 60) (.bool false)
theorem eeRow2e14_ok (R : Nat → Int) (hR : ∀ j, 0 ≤ R j ∧ R j ≤ 255) (n0 : Nat) (kd : Int) (hk : eeRow2K R n0 kd) : @EntOK (eeRowV R hR n0 kd) Try.prog eeRow2e14 := by
  letI : Env := (eeRowV R hR n0 kd)
  obtain ⟨hb, k0, k1, _⟩ := hk; exact entCmp (k := .i64) (a := ((n0 : Int) + 14)) (b := 60) rfl rfl (by show some (decide ((((n0 : Int) + 14) : Int) < 60)) = some false; rw [decide_eq_false (by first | omega | (simp only [sumVal, oct.sumF, oct.F, oct.ws]; omega))])
abbrev eeRow2L : List Ent := eeRows1 :: eeRow2e1 :: eeRow2e2 :: eeRows3 :: eeRow2e9 :: eeRow2e14 :: eeRowG
theorem eeRow2 (w : World) (R : Nat → Int) (hR : ∀ j, 0 ≤ R j ∧ R j ≤ 255) (A0 : Addr) (n0 cp0 : Nat) (w0 : RowIn R 1048576 w A0 n0 cp0) (hn : n0 ≤ 70000) (hm : 1 ≤ n0) (hx : 46 ≤ n0) (kd : Int) (hkd : -9223372036854775808 ≤ kd ∧ kd ≤ 9223372036854775807) (hgk : 1536 ≤ kd ∧ kd ≤ 65535) (hq : (R 2097164 = kd / 256) ∧ (R 2097165 = kd % 256)) (k0 : ¬ ((n0 : Int) > 2000)) (k1 : ¬ ((n0 : Int) > 1500)) : Calls Try.prog 3 #[.agg #[.int .u8 (R 2097152), .int .u8 (R 2097153), .int .u8 (R 2097154), .int .u8 (R 2097155), .int .u8 (R 2097156), .int .u8 (R 2097157), .int .u8 (R 2097158), .int .u8 (R 2097159), .int .u8 (R 2097160), .int .u8 (R 2097161), .int .u8 (R 2097162), .int .u8 (R 2097163), .int .i64 kd, .slice (some A0) n0 cp0]] w (fun e w' => e = .returned (.bool true) ∧ Only [] w w') := by
  letI : Env := (eeRowV R hR n0 kd)
  have hb : eeRowB R n0 kd := ⟨hn, hx, hgk, hq⟩
  have hk : eeRow2K R n0 kd := ⟨hb, k0, k1, trivial⟩
  exact eeRow_run w R hR A0 n0 cp0 w0 hn hm hx kd hkd hgk hq 46 (by omega) eeRow2L (ac (eeRows1_ok R hR n0 kd hb k0) (ac (eeRow2e1_ok R hR n0 kd hk) (ac (eeRow2e2_ok R hR n0 kd hk) (ac (eeRows3_ok R hR n0 kd hb k1) (ac (eeRow2e9_ok R hR n0 kd hk) (ac (eeRow2e14_ok R hR n0 kd hk) (eeRowG_ok R hR n0 kd hb))))))) (by kernel_rfl)
theorem EtherEncodesRow (w : World) (R : Nat → Int) (hR : ∀ j, 0 ≤ R j ∧ R j ≤ 255) (A0 : Addr) (n0 cp0 : Nat) (w0 : RowIn R 1048576 w A0 n0 cp0) (hn : n0 ≤ 70000) (hm : 1 ≤ n0) (hx : 46 ≤ n0) (kd : Int) (hkd : -9223372036854775808 ≤ kd ∧ kd ≤ 9223372036854775807) (hgk : 1536 ≤ kd ∧ kd ≤ 65535) (hq : (R 2097164 = kd / 256) ∧ (R 2097165 = kd % 256)) : Calls Try.prog 3 #[.agg #[.int .u8 (R 2097152), .int .u8 (R 2097153), .int .u8 (R 2097154), .int .u8 (R 2097155), .int .u8 (R 2097156), .int .u8 (R 2097157), .int .u8 (R 2097158), .int .u8 (R 2097159), .int .u8 (R 2097160), .int .u8 (R 2097161), .int .u8 (R 2097162), .int .u8 (R 2097163), .int .i64 kd, .slice (some A0) n0 cp0]] w (fun e w' => e = .returned (.bool true) ∧ Only [] w w') := by
  by_cases h1 : (n0 : Int) > 2000
  ·
    exact eeRow0 w R hR A0 n0 cp0 w0 hn hm hx kd hkd hgk hq h1
  ·
    by_cases h2 : (n0 : Int) > 1500
    ·
      exact eeRow1 w R hR A0 n0 cp0 w0 hn hm hx kd hkd hgk hq h1 h2
    ·
      exact eeRow2 w R hR A0 n0 cp0 w0 hn hm hx kd hkd hgk hq h1 h2
abbrev eeFixV (R : Nat → Int) (hR : ∀ j, 0 ≤ R j ∧ R j ≤ 255) (n0 : Nat) (t0 t1 t2 t3 t4 t5 f0 f1 f2 f3 f4 f5 kd : Int) : Env := envR [.int .i64 (n0 : Int), .int .u8 t0, .int .u8 t1, .int .u8 t2, .int .u8 t3, .int .u8 t4, .int .u8 t5, .int .u8 f0, .int .u8 f1, .int .u8 f2, .int .u8 f3, .int .u8 f4, .int .u8 f5, .int .i64 kd, .int .u64 kd, .int .u64 (kd / 256), .int .u8 (kd / 256), .int .u8 (kd % 256), .int .i64 (kd / 256)] R hR
abbrev eeFixB (R : Nat → Int) (n0 : Nat) (t0 t1 t2 t3 t4 t5 f0 f1 f2 f3 f4 f5 kd : Int) : Prop := n0 < 46 ∧ 1 ≤ n0 ∧ (1536 ≤ kd ∧ kd ≤ 65535) ∧ (0 ≤ t0 ∧ t0 ≤ 255) ∧ (0 ≤ t1 ∧ t1 ≤ 255) ∧ (0 ≤ t2 ∧ t2 ≤ 255) ∧ (0 ≤ t3 ∧ t3 ≤ 255) ∧ (0 ≤ t4 ∧ t4 ≤ 255) ∧ (0 ≤ t5 ∧ t5 ≤ 255) ∧ (0 ≤ f0 ∧ f0 ≤ 255) ∧ (0 ≤ f1 ∧ f1 ≤ 255) ∧ (0 ≤ f2 ∧ f2 ≤ 255) ∧ (0 ≤ f3 ∧ f3 ≤ 255) ∧ (0 ≤ f4 ∧ f4 ≤ 255) ∧ (0 ≤ f5 ∧ f5 ≤ 255) ∧ ((-9223372036854775808) ≤ kd ∧ kd ≤ 9223372036854775807)
def eeFixs0 : Ent := .conv .u64 (.chan (some 13)) (.chan (some 14))
theorem eeFixs0_ok (R : Nat → Int) (hR : ∀ j, 0 ≤ R j ∧ R j ≤ 255) (n0 : Nat) (t0 t1 t2 t3 t4 t5 f0 f1 f2 f3 f4 f5 kd : Int) (hb : eeFixB R n0 t0 t1 t2 t3 t4 t5 f0 f1 f2 f3 f4 f5 kd) : @EntOK (eeFixV R hR n0 t0 t1 t2 t3 t4 t5 f0 f1 f2 f3 f4 f5 kd) Try.prog eeFixs0 := by
  letI : Env := eeFixV R hR n0 t0 t1 t2 t3 t4 t5 f0 f1 f2 f3 f4 f5 kd
  exact entConvV (k := .u64) (l := .i64) (a := kd) (c := kd) rfl rfl (by rw [IntWalk.u64_in _ (by first | omega | (simp only [sumVal, oct.sumF, oct.F, oct.ws]; omega))])
def eeFixs1 : Ent := .bin .shr (.chan (some 14)) (.int .u64 8) (.chan (some 15))
theorem eeFixs1_ok (R : Nat → Int) (hR : ∀ j, 0 ≤ R j ∧ R j ≤ 255) (n0 : Nat) (t0 t1 t2 t3 t4 t5 f0 f1 f2 f3 f4 f5 kd : Int) (hb : eeFixB R n0 t0 t1 t2 t3 t4 t5 f0 f1 f2 f3 f4 f5 kd) : @EntOK (eeFixV R hR n0 t0 t1 t2 t3 t4 t5 f0 f1 f2 f3 f4 f5 kd) Try.prog eeFixs1 := by
  letI : Env := eeFixV R hR n0 t0 t1 t2 t3 t4 t5 f0 f1 f2 f3 f4 f5 kd
  exact entShrV (k := .u64) (l := .u64) (a := kd) (c := (kd / 256)) (s := 8) rfl rfl rfl (by decide) (by exact fdiv_nat _ 256)
def eeFixs2 : Ent := .conv .u8 (.chan (some 15)) (.chan (some 16))
theorem eeFixs2_ok (R : Nat → Int) (hR : ∀ j, 0 ≤ R j ∧ R j ≤ 255) (n0 : Nat) (t0 t1 t2 t3 t4 t5 f0 f1 f2 f3 f4 f5 kd : Int) (hb : eeFixB R n0 t0 t1 t2 t3 t4 t5 f0 f1 f2 f3 f4 f5 kd) : @EntOK (eeFixV R hR n0 t0 t1 t2 t3 t4 t5 f0 f1 f2 f3 f4 f5 kd) Try.prog eeFixs2 := by
  letI : Env := eeFixV R hR n0 t0 t1 t2 t3 t4 t5 f0 f1 f2 f3 f4 f5 kd
  exact entConvV (k := .u8) (l := .u64) (a := (kd / 256)) (c := (kd / 256)) rfl rfl (by rw [IntWalk.u8_in _ (by first | omega | (simp only [sumVal, oct.sumF, oct.F, oct.ws]; omega))])
def eeFixs3 : Ent := .conv .u8 (.chan (some 14)) (.chan (some 17))
theorem eeFixs3_ok (R : Nat → Int) (hR : ∀ j, 0 ≤ R j ∧ R j ≤ 255) (n0 : Nat) (t0 t1 t2 t3 t4 t5 f0 f1 f2 f3 f4 f5 kd : Int) (hb : eeFixB R n0 t0 t1 t2 t3 t4 t5 f0 f1 f2 f3 f4 f5 kd) : @EntOK (eeFixV R hR n0 t0 t1 t2 t3 t4 t5 f0 f1 f2 f3 f4 f5 kd) Try.prog eeFixs3 := by
  letI : Env := eeFixV R hR n0 t0 t1 t2 t3 t4 t5 f0 f1 f2 f3 f4 f5 kd
  exact entConvV (k := .u8) (l := .u64) (a := kd) (c := (kd % 256)) rfl rfl (by rw [IntKind.wrap_u8])
def eeFixs4 : Ent := .bin .shr (.chan (some 13)) (.int .u64 8) (.chan (some 18))
theorem eeFixs4_ok (R : Nat → Int) (hR : ∀ j, 0 ≤ R j ∧ R j ≤ 255) (n0 : Nat) (t0 t1 t2 t3 t4 t5 f0 f1 f2 f3 f4 f5 kd : Int) (hb : eeFixB R n0 t0 t1 t2 t3 t4 t5 f0 f1 f2 f3 f4 f5 kd) : @EntOK (eeFixV R hR n0 t0 t1 t2 t3 t4 t5 f0 f1 f2 f3 f4 f5 kd) Try.prog eeFixs4 := by
  letI : Env := eeFixV R hR n0 t0 t1 t2 t3 t4 t5 f0 f1 f2 f3 f4 f5 kd
  exact entShrV (k := .i64) (l := .u64) (a := kd) (c := (kd / 256)) (s := 8) rfl rfl rfl (by decide) (by exact fdiv_nat _ 256)
def eeFixs5 : Ent := .conv .u8 (.chan (some 18)) (.chan (some 16))
theorem eeFixs5_ok (R : Nat → Int) (hR : ∀ j, 0 ≤ R j ∧ R j ≤ 255) (n0 : Nat) (t0 t1 t2 t3 t4 t5 f0 f1 f2 f3 f4 f5 kd : Int) (hb : eeFixB R n0 t0 t1 t2 t3 t4 t5 f0 f1 f2 f3 f4 f5 kd) : @EntOK (eeFixV R hR n0 t0 t1 t2 t3 t4 t5 f0 f1 f2 f3 f4 f5 kd) Try.prog eeFixs5 := by
  letI : Env := eeFixV R hR n0 t0 t1 t2 t3 t4 t5 f0 f1 f2 f3 f4 f5 kd
  exact entConvV (k := .u8) (l := .i64) (a := (kd / 256)) (c := (kd / 256)) rfl rfl (by rw [IntWalk.u8_in _ (by first | omega | (simp only [sumVal, oct.sumF, oct.F, oct.ws]; omega))])
def eeFixs6 : Ent := .conv .u8 (.chan (some 13)) (.chan (some 17))
theorem eeFixs6_ok (R : Nat → Int) (hR : ∀ j, 0 ≤ R j ∧ R j ≤ 255) (n0 : Nat) (t0 t1 t2 t3 t4 t5 f0 f1 f2 f3 f4 f5 kd : Int) (hb : eeFixB R n0 t0 t1 t2 t3 t4 t5 f0 f1 f2 f3 f4 f5 kd) : @EntOK (eeFixV R hR n0 t0 t1 t2 t3 t4 t5 f0 f1 f2 f3 f4 f5 kd) Try.prog eeFixs6 := by
  letI : Env := eeFixV R hR n0 t0 t1 t2 t3 t4 t5 f0 f1 f2 f3 f4 f5 kd
  exact entConvV (k := .u8) (l := .i64) (a := kd) (c := (kd % 256)) rfl rfl (by rw [IntKind.wrap_u8])
def eeFixs7 : Ent := .bin .neq (.chan (some 1)) (.chan (some 1)) (.bool false)
theorem eeFixs7_ok (R : Nat → Int) (hR : ∀ j, 0 ≤ R j ∧ R j ≤ 255) (n0 : Nat) (t0 t1 t2 t3 t4 t5 f0 f1 f2 f3 f4 f5 kd : Int) (hb : eeFixB R n0 t0 t1 t2 t3 t4 t5 f0 f1 f2 f3 f4 f5 kd) : @EntOK (eeFixV R hR n0 t0 t1 t2 t3 t4 t5 f0 f1 f2 f3 f4 f5 kd) Try.prog eeFixs7 := by
  letI : Env := eeFixV R hR n0 t0 t1 t2 t3 t4 t5 f0 f1 f2 f3 f4 f5 kd
  exact entCmp (k := .u8) (a := t0) (b := t0) rfl rfl (by show some ((t0 : Int) != t0) = some false; rw [bne_eq_false_iff_eq.2 (by first | omega | (simp only [sumVal, oct.sumF, oct.F, oct.ws]; omega))])
def eeFixs8 : Ent := .bin .neq (.chan (some 2)) (.chan (some 2)) (.bool false)
theorem eeFixs8_ok (R : Nat → Int) (hR : ∀ j, 0 ≤ R j ∧ R j ≤ 255) (n0 : Nat) (t0 t1 t2 t3 t4 t5 f0 f1 f2 f3 f4 f5 kd : Int) (hb : eeFixB R n0 t0 t1 t2 t3 t4 t5 f0 f1 f2 f3 f4 f5 kd) : @EntOK (eeFixV R hR n0 t0 t1 t2 t3 t4 t5 f0 f1 f2 f3 f4 f5 kd) Try.prog eeFixs8 := by
  letI : Env := eeFixV R hR n0 t0 t1 t2 t3 t4 t5 f0 f1 f2 f3 f4 f5 kd
  exact entCmp (k := .u8) (a := t1) (b := t1) rfl rfl (by show some ((t1 : Int) != t1) = some false; rw [bne_eq_false_iff_eq.2 (by first | omega | (simp only [sumVal, oct.sumF, oct.F, oct.ws]; omega))])
def eeFixs9 : Ent := .bin .neq (.chan (some 3)) (.chan (some 3)) (.bool false)
theorem eeFixs9_ok (R : Nat → Int) (hR : ∀ j, 0 ≤ R j ∧ R j ≤ 255) (n0 : Nat) (t0 t1 t2 t3 t4 t5 f0 f1 f2 f3 f4 f5 kd : Int) (hb : eeFixB R n0 t0 t1 t2 t3 t4 t5 f0 f1 f2 f3 f4 f5 kd) : @EntOK (eeFixV R hR n0 t0 t1 t2 t3 t4 t5 f0 f1 f2 f3 f4 f5 kd) Try.prog eeFixs9 := by
  letI : Env := eeFixV R hR n0 t0 t1 t2 t3 t4 t5 f0 f1 f2 f3 f4 f5 kd
  exact entCmp (k := .u8) (a := t2) (b := t2) rfl rfl (by show some ((t2 : Int) != t2) = some false; rw [bne_eq_false_iff_eq.2 (by first | omega | (simp only [sumVal, oct.sumF, oct.F, oct.ws]; omega))])
def eeFixs10 : Ent := .bin .neq (.chan (some 4)) (.chan (some 4)) (.bool false)
theorem eeFixs10_ok (R : Nat → Int) (hR : ∀ j, 0 ≤ R j ∧ R j ≤ 255) (n0 : Nat) (t0 t1 t2 t3 t4 t5 f0 f1 f2 f3 f4 f5 kd : Int) (hb : eeFixB R n0 t0 t1 t2 t3 t4 t5 f0 f1 f2 f3 f4 f5 kd) : @EntOK (eeFixV R hR n0 t0 t1 t2 t3 t4 t5 f0 f1 f2 f3 f4 f5 kd) Try.prog eeFixs10 := by
  letI : Env := eeFixV R hR n0 t0 t1 t2 t3 t4 t5 f0 f1 f2 f3 f4 f5 kd
  exact entCmp (k := .u8) (a := t3) (b := t3) rfl rfl (by show some ((t3 : Int) != t3) = some false; rw [bne_eq_false_iff_eq.2 (by first | omega | (simp only [sumVal, oct.sumF, oct.F, oct.ws]; omega))])
def eeFixs11 : Ent := .bin .neq (.chan (some 5)) (.chan (some 5)) (.bool false)
theorem eeFixs11_ok (R : Nat → Int) (hR : ∀ j, 0 ≤ R j ∧ R j ≤ 255) (n0 : Nat) (t0 t1 t2 t3 t4 t5 f0 f1 f2 f3 f4 f5 kd : Int) (hb : eeFixB R n0 t0 t1 t2 t3 t4 t5 f0 f1 f2 f3 f4 f5 kd) : @EntOK (eeFixV R hR n0 t0 t1 t2 t3 t4 t5 f0 f1 f2 f3 f4 f5 kd) Try.prog eeFixs11 := by
  letI : Env := eeFixV R hR n0 t0 t1 t2 t3 t4 t5 f0 f1 f2 f3 f4 f5 kd
  exact entCmp (k := .u8) (a := t4) (b := t4) rfl rfl (by show some ((t4 : Int) != t4) = some false; rw [bne_eq_false_iff_eq.2 (by first | omega | (simp only [sumVal, oct.sumF, oct.F, oct.ws]; omega))])
def eeFixs12 : Ent := .bin .neq (.chan (some 6)) (.chan (some 6)) (.bool false)
theorem eeFixs12_ok (R : Nat → Int) (hR : ∀ j, 0 ≤ R j ∧ R j ≤ 255) (n0 : Nat) (t0 t1 t2 t3 t4 t5 f0 f1 f2 f3 f4 f5 kd : Int) (hb : eeFixB R n0 t0 t1 t2 t3 t4 t5 f0 f1 f2 f3 f4 f5 kd) : @EntOK (eeFixV R hR n0 t0 t1 t2 t3 t4 t5 f0 f1 f2 f3 f4 f5 kd) Try.prog eeFixs12 := by
  letI : Env := eeFixV R hR n0 t0 t1 t2 t3 t4 t5 f0 f1 f2 f3 f4 f5 kd
  exact entCmp (k := .u8) (a := t5) (b := t5) rfl rfl (by show some ((t5 : Int) != t5) = some false; rw [bne_eq_false_iff_eq.2 (by first | omega | (simp only [sumVal, oct.sumF, oct.F, oct.ws]; omega))])
def eeFixs13 : Ent := .bin .neq (.chan (some 7)) (.chan (some 7)) (.bool false)
theorem eeFixs13_ok (R : Nat → Int) (hR : ∀ j, 0 ≤ R j ∧ R j ≤ 255) (n0 : Nat) (t0 t1 t2 t3 t4 t5 f0 f1 f2 f3 f4 f5 kd : Int) (hb : eeFixB R n0 t0 t1 t2 t3 t4 t5 f0 f1 f2 f3 f4 f5 kd) : @EntOK (eeFixV R hR n0 t0 t1 t2 t3 t4 t5 f0 f1 f2 f3 f4 f5 kd) Try.prog eeFixs13 := by
  letI : Env := eeFixV R hR n0 t0 t1 t2 t3 t4 t5 f0 f1 f2 f3 f4 f5 kd
  exact entCmp (k := .u8) (a := f0) (b := f0) rfl rfl (by show some ((f0 : Int) != f0) = some false; rw [bne_eq_false_iff_eq.2 (by first | omega | (simp only [sumVal, oct.sumF, oct.F, oct.ws]; omega))])
def eeFixs14 : Ent := .bin .neq (.chan (some 8)) (.chan (some 8)) (.bool false)
theorem eeFixs14_ok (R : Nat → Int) (hR : ∀ j, 0 ≤ R j ∧ R j ≤ 255) (n0 : Nat) (t0 t1 t2 t3 t4 t5 f0 f1 f2 f3 f4 f5 kd : Int) (hb : eeFixB R n0 t0 t1 t2 t3 t4 t5 f0 f1 f2 f3 f4 f5 kd) : @EntOK (eeFixV R hR n0 t0 t1 t2 t3 t4 t5 f0 f1 f2 f3 f4 f5 kd) Try.prog eeFixs14 := by
  letI : Env := eeFixV R hR n0 t0 t1 t2 t3 t4 t5 f0 f1 f2 f3 f4 f5 kd
  exact entCmp (k := .u8) (a := f1) (b := f1) rfl rfl (by show some ((f1 : Int) != f1) = some false; rw [bne_eq_false_iff_eq.2 (by first | omega | (simp only [sumVal, oct.sumF, oct.F, oct.ws]; omega))])
def eeFixs15 : Ent := .bin .neq (.chan (some 9)) (.chan (some 9)) (.bool false)
theorem eeFixs15_ok (R : Nat → Int) (hR : ∀ j, 0 ≤ R j ∧ R j ≤ 255) (n0 : Nat) (t0 t1 t2 t3 t4 t5 f0 f1 f2 f3 f4 f5 kd : Int) (hb : eeFixB R n0 t0 t1 t2 t3 t4 t5 f0 f1 f2 f3 f4 f5 kd) : @EntOK (eeFixV R hR n0 t0 t1 t2 t3 t4 t5 f0 f1 f2 f3 f4 f5 kd) Try.prog eeFixs15 := by
  letI : Env := eeFixV R hR n0 t0 t1 t2 t3 t4 t5 f0 f1 f2 f3 f4 f5 kd
  exact entCmp (k := .u8) (a := f2) (b := f2) rfl rfl (by show some ((f2 : Int) != f2) = some false; rw [bne_eq_false_iff_eq.2 (by first | omega | (simp only [sumVal, oct.sumF, oct.F, oct.ws]; omega))])
def eeFixs16 : Ent := .bin .neq (.chan (some 10)) (.chan (some 10)) (.bool false)
theorem eeFixs16_ok (R : Nat → Int) (hR : ∀ j, 0 ≤ R j ∧ R j ≤ 255) (n0 : Nat) (t0 t1 t2 t3 t4 t5 f0 f1 f2 f3 f4 f5 kd : Int) (hb : eeFixB R n0 t0 t1 t2 t3 t4 t5 f0 f1 f2 f3 f4 f5 kd) : @EntOK (eeFixV R hR n0 t0 t1 t2 t3 t4 t5 f0 f1 f2 f3 f4 f5 kd) Try.prog eeFixs16 := by
  letI : Env := eeFixV R hR n0 t0 t1 t2 t3 t4 t5 f0 f1 f2 f3 f4 f5 kd
  exact entCmp (k := .u8) (a := f3) (b := f3) rfl rfl (by show some ((f3 : Int) != f3) = some false; rw [bne_eq_false_iff_eq.2 (by first | omega | (simp only [sumVal, oct.sumF, oct.F, oct.ws]; omega))])
def eeFixs17 : Ent := .bin .neq (.chan (some 11)) (.chan (some 11)) (.bool false)
theorem eeFixs17_ok (R : Nat → Int) (hR : ∀ j, 0 ≤ R j ∧ R j ≤ 255) (n0 : Nat) (t0 t1 t2 t3 t4 t5 f0 f1 f2 f3 f4 f5 kd : Int) (hb : eeFixB R n0 t0 t1 t2 t3 t4 t5 f0 f1 f2 f3 f4 f5 kd) : @EntOK (eeFixV R hR n0 t0 t1 t2 t3 t4 t5 f0 f1 f2 f3 f4 f5 kd) Try.prog eeFixs17 := by
  letI : Env := eeFixV R hR n0 t0 t1 t2 t3 t4 t5 f0 f1 f2 f3 f4 f5 kd
  exact entCmp (k := .u8) (a := f4) (b := f4) rfl rfl (by show some ((f4 : Int) != f4) = some false; rw [bne_eq_false_iff_eq.2 (by first | omega | (simp only [sumVal, oct.sumF, oct.F, oct.ws]; omega))])
def eeFixs18 : Ent := .bin .neq (.chan (some 12)) (.chan (some 12)) (.bool false)
theorem eeFixs18_ok (R : Nat → Int) (hR : ∀ j, 0 ≤ R j ∧ R j ≤ 255) (n0 : Nat) (t0 t1 t2 t3 t4 t5 f0 f1 f2 f3 f4 f5 kd : Int) (hb : eeFixB R n0 t0 t1 t2 t3 t4 t5 f0 f1 f2 f3 f4 f5 kd) : @EntOK (eeFixV R hR n0 t0 t1 t2 t3 t4 t5 f0 f1 f2 f3 f4 f5 kd) Try.prog eeFixs18 := by
  letI : Env := eeFixV R hR n0 t0 t1 t2 t3 t4 t5 f0 f1 f2 f3 f4 f5 kd
  exact entCmp (k := .u8) (a := f5) (b := f5) rfl rfl (by show some ((f5 : Int) != f5) = some false; rw [bne_eq_false_iff_eq.2 (by first | omega | (simp only [sumVal, oct.sumF, oct.F, oct.ws]; omega))])
def eeFixs19 : Ent := .bin .neq (.chan (some 16)) (.chan (some 16)) (.bool false)
theorem eeFixs19_ok (R : Nat → Int) (hR : ∀ j, 0 ≤ R j ∧ R j ≤ 255) (n0 : Nat) (t0 t1 t2 t3 t4 t5 f0 f1 f2 f3 f4 f5 kd : Int) (hb : eeFixB R n0 t0 t1 t2 t3 t4 t5 f0 f1 f2 f3 f4 f5 kd) : @EntOK (eeFixV R hR n0 t0 t1 t2 t3 t4 t5 f0 f1 f2 f3 f4 f5 kd) Try.prog eeFixs19 := by
  letI : Env := eeFixV R hR n0 t0 t1 t2 t3 t4 t5 f0 f1 f2 f3 f4 f5 kd
  exact entCmp (k := .u8) (a := (kd / 256)) (b := (kd / 256)) rfl rfl (by show some (((kd / 256) : Int) != (kd / 256)) = some false; rw [bne_eq_false_iff_eq.2 (by first | omega | (simp only [sumVal, oct.sumF, oct.F, oct.ws]; omega))])
def eeFixs20 : Ent := .bin .neq (.chan (some 17)) (.chan (some 17)) (.bool false)
theorem eeFixs20_ok (R : Nat → Int) (hR : ∀ j, 0 ≤ R j ∧ R j ≤ 255) (n0 : Nat) (t0 t1 t2 t3 t4 t5 f0 f1 f2 f3 f4 f5 kd : Int) (hb : eeFixB R n0 t0 t1 t2 t3 t4 t5 f0 f1 f2 f3 f4 f5 kd) : @EntOK (eeFixV R hR n0 t0 t1 t2 t3 t4 t5 f0 f1 f2 f3 f4 f5 kd) Try.prog eeFixs20 := by
  letI : Env := eeFixV R hR n0 t0 t1 t2 t3 t4 t5 f0 f1 f2 f3 f4 f5 kd
  exact entCmp (k := .u8) (a := (kd % 256)) (b := (kd % 256)) rfl rfl (by show some (((kd % 256) : Int) != (kd % 256)) = some false; rw [bne_eq_false_iff_eq.2 (by first | omega | (simp only [sumVal, oct.sumF, oct.F, oct.ws]; omega))])
def eeFixs21 : Ent := .bin .neq (.chan (some 1048576)) (.chan (some 1048576)) (.bool false)
theorem eeFixs21_ok (R : Nat → Int) (hR : ∀ j, 0 ≤ R j ∧ R j ≤ 255) (n0 : Nat) (t0 t1 t2 t3 t4 t5 f0 f1 f2 f3 f4 f5 kd : Int) (hb : eeFixB R n0 t0 t1 t2 t3 t4 t5 f0 f1 f2 f3 f4 f5 kd) : @EntOK (eeFixV R hR n0 t0 t1 t2 t3 t4 t5 f0 f1 f2 f3 f4 f5 kd) Try.prog eeFixs21 := by
  letI : Env := eeFixV R hR n0 t0 t1 t2 t3 t4 t5 f0 f1 f2 f3 f4 f5 kd
  have rb1048576 := hR 1048576; exact entCmp (k := .u8) (a := (R 1048576)) (b := (R 1048576)) rfl rfl (by show some (((R 1048576) : Int) != (R 1048576)) = some false; rw [bne_eq_false_iff_eq.2 (by first | omega | (simp only [sumVal, oct.sumF, oct.F, oct.ws]; omega))])
def eeFixs22 : Ent := .bin .neq (.chan (some 1048577)) (.chan (some 1048577)) (.bool false)
theorem eeFixs22_ok (R : Nat → Int) (hR : ∀ j, 0 ≤ R j ∧ R j ≤ 255) (n0 : Nat) (t0 t1 t2 t3 t4 t5 f0 f1 f2 f3 f4 f5 kd : Int) (hb : eeFixB R n0 t0 t1 t2 t3 t4 t5 f0 f1 f2 f3 f4 f5 kd) : @EntOK (eeFixV R hR n0 t0 t1 t2 t3 t4 t5 f0 f1 f2 f3 f4 f5 kd) Try.prog eeFixs22 := by
  letI : Env := eeFixV R hR n0 t0 t1 t2 t3 t4 t5 f0 f1 f2 f3 f4 f5 kd
  have rb1048577 := hR 1048577; exact entCmp (k := .u8) (a := (R 1048577)) (b := (R 1048577)) rfl rfl (by show some (((R 1048577) : Int) != (R 1048577)) = some false; rw [bne_eq_false_iff_eq.2 (by first | omega | (simp only [sumVal, oct.sumF, oct.F, oct.ws]; omega))])
def eeFixs23 : Ent := .bin .neq (.chan (some 1048578)) (.chan (some 1048578)) (.bool false)
theorem eeFixs23_ok (R : Nat → Int) (hR : ∀ j, 0 ≤ R j ∧ R j ≤ 255) (n0 : Nat) (t0 t1 t2 t3 t4 t5 f0 f1 f2 f3 f4 f5 kd : Int) (hb : eeFixB R n0 t0 t1 t2 t3 t4 t5 f0 f1 f2 f3 f4 f5 kd) : @EntOK (eeFixV R hR n0 t0 t1 t2 t3 t4 t5 f0 f1 f2 f3 f4 f5 kd) Try.prog eeFixs23 := by
  letI : Env := eeFixV R hR n0 t0 t1 t2 t3 t4 t5 f0 f1 f2 f3 f4 f5 kd
  have rb1048578 := hR 1048578; exact entCmp (k := .u8) (a := (R 1048578)) (b := (R 1048578)) rfl rfl (by show some (((R 1048578) : Int) != (R 1048578)) = some false; rw [bne_eq_false_iff_eq.2 (by first | omega | (simp only [sumVal, oct.sumF, oct.F, oct.ws]; omega))])
def eeFixs24 : Ent := .bin .neq (.chan (some 1048579)) (.chan (some 1048579)) (.bool false)
theorem eeFixs24_ok (R : Nat → Int) (hR : ∀ j, 0 ≤ R j ∧ R j ≤ 255) (n0 : Nat) (t0 t1 t2 t3 t4 t5 f0 f1 f2 f3 f4 f5 kd : Int) (hb : eeFixB R n0 t0 t1 t2 t3 t4 t5 f0 f1 f2 f3 f4 f5 kd) : @EntOK (eeFixV R hR n0 t0 t1 t2 t3 t4 t5 f0 f1 f2 f3 f4 f5 kd) Try.prog eeFixs24 := by
  letI : Env := eeFixV R hR n0 t0 t1 t2 t3 t4 t5 f0 f1 f2 f3 f4 f5 kd
  have rb1048579 := hR 1048579; exact entCmp (k := .u8) (a := (R 1048579)) (b := (R 1048579)) rfl rfl (by show some (((R 1048579) : Int) != (R 1048579)) = some false; rw [bne_eq_false_iff_eq.2 (by first | omega | (simp only [sumVal, oct.sumF, oct.F, oct.ws]; omega))])
def eeFixs25 : Ent := .bin .neq (.chan (some 1048580)) (.chan (some 1048580)) (.bool false)
theorem eeFixs25_ok (R : Nat → Int) (hR : ∀ j, 0 ≤ R j ∧ R j ≤ 255) (n0 : Nat) (t0 t1 t2 t3 t4 t5 f0 f1 f2 f3 f4 f5 kd : Int) (hb : eeFixB R n0 t0 t1 t2 t3 t4 t5 f0 f1 f2 f3 f4 f5 kd) : @EntOK (eeFixV R hR n0 t0 t1 t2 t3 t4 t5 f0 f1 f2 f3 f4 f5 kd) Try.prog eeFixs25 := by
  letI : Env := eeFixV R hR n0 t0 t1 t2 t3 t4 t5 f0 f1 f2 f3 f4 f5 kd
  have rb1048580 := hR 1048580; exact entCmp (k := .u8) (a := (R 1048580)) (b := (R 1048580)) rfl rfl (by show some (((R 1048580) : Int) != (R 1048580)) = some false; rw [bne_eq_false_iff_eq.2 (by first | omega | (simp only [sumVal, oct.sumF, oct.F, oct.ws]; omega))])
def eeFixs26 : Ent := .bin .neq (.chan (some 1048581)) (.chan (some 1048581)) (.bool false)
theorem eeFixs26_ok (R : Nat → Int) (hR : ∀ j, 0 ≤ R j ∧ R j ≤ 255) (n0 : Nat) (t0 t1 t2 t3 t4 t5 f0 f1 f2 f3 f4 f5 kd : Int) (hb : eeFixB R n0 t0 t1 t2 t3 t4 t5 f0 f1 f2 f3 f4 f5 kd) : @EntOK (eeFixV R hR n0 t0 t1 t2 t3 t4 t5 f0 f1 f2 f3 f4 f5 kd) Try.prog eeFixs26 := by
  letI : Env := eeFixV R hR n0 t0 t1 t2 t3 t4 t5 f0 f1 f2 f3 f4 f5 kd
  have rb1048581 := hR 1048581; exact entCmp (k := .u8) (a := (R 1048581)) (b := (R 1048581)) rfl rfl (by show some (((R 1048581) : Int) != (R 1048581)) = some false; rw [bne_eq_false_iff_eq.2 (by first | omega | (simp only [sumVal, oct.sumF, oct.F, oct.ws]; omega))])
def eeFixs27 : Ent := .bin .neq (.chan (some 1048582)) (.chan (some 1048582)) (.bool false)
theorem eeFixs27_ok (R : Nat → Int) (hR : ∀ j, 0 ≤ R j ∧ R j ≤ 255) (n0 : Nat) (t0 t1 t2 t3 t4 t5 f0 f1 f2 f3 f4 f5 kd : Int) (hb : eeFixB R n0 t0 t1 t2 t3 t4 t5 f0 f1 f2 f3 f4 f5 kd) : @EntOK (eeFixV R hR n0 t0 t1 t2 t3 t4 t5 f0 f1 f2 f3 f4 f5 kd) Try.prog eeFixs27 := by
  letI : Env := eeFixV R hR n0 t0 t1 t2 t3 t4 t5 f0 f1 f2 f3 f4 f5 kd
  have rb1048582 := hR 1048582; exact entCmp (k := .u8) (a := (R 1048582)) (b := (R 1048582)) rfl rfl (by show some (((R 1048582) : Int) != (R 1048582)) = some false; rw [bne_eq_false_iff_eq.2 (by first | omega | (simp only [sumVal, oct.sumF, oct.F, oct.ws]; omega))])
def eeFixs28 : Ent := .bin .neq (.chan (some 1048583)) (.chan (some 1048583)) (.bool false)
theorem eeFixs28_ok (R : Nat → Int) (hR : ∀ j, 0 ≤ R j ∧ R j ≤ 255) (n0 : Nat) (t0 t1 t2 t3 t4 t5 f0 f1 f2 f3 f4 f5 kd : Int) (hb : eeFixB R n0 t0 t1 t2 t3 t4 t5 f0 f1 f2 f3 f4 f5 kd) : @EntOK (eeFixV R hR n0 t0 t1 t2 t3 t4 t5 f0 f1 f2 f3 f4 f5 kd) Try.prog eeFixs28 := by
  letI : Env := eeFixV R hR n0 t0 t1 t2 t3 t4 t5 f0 f1 f2 f3 f4 f5 kd
  have rb1048583 := hR 1048583; exact entCmp (k := .u8) (a := (R 1048583)) (b := (R 1048583)) rfl rfl (by show some (((R 1048583) : Int) != (R 1048583)) = some false; rw [bne_eq_false_iff_eq.2 (by first | omega | (simp only [sumVal, oct.sumF, oct.F, oct.ws]; omega))])
def eeFixs29 : Ent := .bin .neq (.chan (some 1048584)) (.chan (some 1048584)) (.bool false)
theorem eeFixs29_ok (R : Nat → Int) (hR : ∀ j, 0 ≤ R j ∧ R j ≤ 255) (n0 : Nat) (t0 t1 t2 t3 t4 t5 f0 f1 f2 f3 f4 f5 kd : Int) (hb : eeFixB R n0 t0 t1 t2 t3 t4 t5 f0 f1 f2 f3 f4 f5 kd) : @EntOK (eeFixV R hR n0 t0 t1 t2 t3 t4 t5 f0 f1 f2 f3 f4 f5 kd) Try.prog eeFixs29 := by
  letI : Env := eeFixV R hR n0 t0 t1 t2 t3 t4 t5 f0 f1 f2 f3 f4 f5 kd
  have rb1048584 := hR 1048584; exact entCmp (k := .u8) (a := (R 1048584)) (b := (R 1048584)) rfl rfl (by show some (((R 1048584) : Int) != (R 1048584)) = some false; rw [bne_eq_false_iff_eq.2 (by first | omega | (simp only [sumVal, oct.sumF, oct.F, oct.ws]; omega))])
def eeFixs30 : Ent := .bin .neq (.chan (some 1048585)) (.chan (some 1048585)) (.bool false)
theorem eeFixs30_ok (R : Nat → Int) (hR : ∀ j, 0 ≤ R j ∧ R j ≤ 255) (n0 : Nat) (t0 t1 t2 t3 t4 t5 f0 f1 f2 f3 f4 f5 kd : Int) (hb : eeFixB R n0 t0 t1 t2 t3 t4 t5 f0 f1 f2 f3 f4 f5 kd) : @EntOK (eeFixV R hR n0 t0 t1 t2 t3 t4 t5 f0 f1 f2 f3 f4 f5 kd) Try.prog eeFixs30 := by
  letI : Env := eeFixV R hR n0 t0 t1 t2 t3 t4 t5 f0 f1 f2 f3 f4 f5 kd
  have rb1048585 := hR 1048585; exact entCmp (k := .u8) (a := (R 1048585)) (b := (R 1048585)) rfl rfl (by show some (((R 1048585) : Int) != (R 1048585)) = some false; rw [bne_eq_false_iff_eq.2 (by first | omega | (simp only [sumVal, oct.sumF, oct.F, oct.ws]; omega))])
def eeFixs31 : Ent := .bin .neq (.chan (some 1048586)) (.chan (some 1048586)) (.bool false)
theorem eeFixs31_ok (R : Nat → Int) (hR : ∀ j, 0 ≤ R j ∧ R j ≤ 255) (n0 : Nat) (t0 t1 t2 t3 t4 t5 f0 f1 f2 f3 f4 f5 kd : Int) (hb : eeFixB R n0 t0 t1 t2 t3 t4 t5 f0 f1 f2 f3 f4 f5 kd) : @EntOK (eeFixV R hR n0 t0 t1 t2 t3 t4 t5 f0 f1 f2 f3 f4 f5 kd) Try.prog eeFixs31 := by
  letI : Env := eeFixV R hR n0 t0 t1 t2 t3 t4 t5 f0 f1 f2 f3 f4 f5 kd
  have rb1048586 := hR 1048586; exact entCmp (k := .u8) (a := (R 1048586)) (b := (R 1048586)) rfl rfl (by show some (((R 1048586) : Int) != (R 1048586)) = some false; rw [bne_eq_false_iff_eq.2 (by first | omega | (simp only [sumVal, oct.sumF, oct.F, oct.ws]; omega))])
def eeFixs32 : Ent := .bin .neq (.chan (some 1048587)) (.chan (some 1048587)) (.bool false)
theorem eeFixs32_ok (R : Nat → Int) (hR : ∀ j, 0 ≤ R j ∧ R j ≤ 255) (n0 : Nat) (t0 t1 t2 t3 t4 t5 f0 f1 f2 f3 f4 f5 kd : Int) (hb : eeFixB R n0 t0 t1 t2 t3 t4 t5 f0 f1 f2 f3 f4 f5 kd) : @EntOK (eeFixV R hR n0 t0 t1 t2 t3 t4 t5 f0 f1 f2 f3 f4 f5 kd) Try.prog eeFixs32 := by
  letI : Env := eeFixV R hR n0 t0 t1 t2 t3 t4 t5 f0 f1 f2 f3 f4 f5 kd
  have rb1048587 := hR 1048587; exact entCmp (k := .u8) (a := (R 1048587)) (b := (R 1048587)) rfl rfl (by show some (((R 1048587) : Int) != (R 1048587)) = some false; rw [bne_eq_false_iff_eq.2 (by first | omega | (simp only [sumVal, oct.sumF, oct.F, oct.ws]; omega))])
def eeFixs33 : Ent := .bin .neq (.chan (some 1048588)) (.chan (some 1048588)) (.bool false)
theorem eeFixs33_ok (R : Nat → Int) (hR : ∀ j, 0 ≤ R j ∧ R j ≤ 255) (n0 : Nat) (t0 t1 t2 t3 t4 t5 f0 f1 f2 f3 f4 f5 kd : Int) (hb : eeFixB R n0 t0 t1 t2 t3 t4 t5 f0 f1 f2 f3 f4 f5 kd) : @EntOK (eeFixV R hR n0 t0 t1 t2 t3 t4 t5 f0 f1 f2 f3 f4 f5 kd) Try.prog eeFixs33 := by
  letI : Env := eeFixV R hR n0 t0 t1 t2 t3 t4 t5 f0 f1 f2 f3 f4 f5 kd
  have rb1048588 := hR 1048588; exact entCmp (k := .u8) (a := (R 1048588)) (b := (R 1048588)) rfl rfl (by show some (((R 1048588) : Int) != (R 1048588)) = some false; rw [bne_eq_false_iff_eq.2 (by first | omega | (simp only [sumVal, oct.sumF, oct.F, oct.ws]; omega))])
def eeFixs34 : Ent := .bin .neq (.chan (some 1048589)) (.chan (some 1048589)) (.bool false)
theorem eeFixs34_ok (R : Nat → Int) (hR : ∀ j, 0 ≤ R j ∧ R j ≤ 255) (n0 : Nat) (t0 t1 t2 t3 t4 t5 f0 f1 f2 f3 f4 f5 kd : Int) (hb : eeFixB R n0 t0 t1 t2 t3 t4 t5 f0 f1 f2 f3 f4 f5 kd) : @EntOK (eeFixV R hR n0 t0 t1 t2 t3 t4 t5 f0 f1 f2 f3 f4 f5 kd) Try.prog eeFixs34 := by
  letI : Env := eeFixV R hR n0 t0 t1 t2 t3 t4 t5 f0 f1 f2 f3 f4 f5 kd
  have rb1048589 := hR 1048589; exact entCmp (k := .u8) (a := (R 1048589)) (b := (R 1048589)) rfl rfl (by show some (((R 1048589) : Int) != (R 1048589)) = some false; rw [bne_eq_false_iff_eq.2 (by first | omega | (simp only [sumVal, oct.sumF, oct.F, oct.ws]; omega))])
def eeFixs35 : Ent := .bin .neq (.chan (some 1048590)) (.chan (some 1048590)) (.bool false)
theorem eeFixs35_ok (R : Nat → Int) (hR : ∀ j, 0 ≤ R j ∧ R j ≤ 255) (n0 : Nat) (t0 t1 t2 t3 t4 t5 f0 f1 f2 f3 f4 f5 kd : Int) (hb : eeFixB R n0 t0 t1 t2 t3 t4 t5 f0 f1 f2 f3 f4 f5 kd) : @EntOK (eeFixV R hR n0 t0 t1 t2 t3 t4 t5 f0 f1 f2 f3 f4 f5 kd) Try.prog eeFixs35 := by
  letI : Env := eeFixV R hR n0 t0 t1 t2 t3 t4 t5 f0 f1 f2 f3 f4 f5 kd
  have rb1048590 := hR 1048590; exact entCmp (k := .u8) (a := (R 1048590)) (b := (R 1048590)) rfl rfl (by show some (((R 1048590) : Int) != (R 1048590)) = some false; rw [bne_eq_false_iff_eq.2 (by first | omega | (simp only [sumVal, oct.sumF, oct.F, oct.ws]; omega))])
def eeFixs36 : Ent := .bin .neq (.chan (some 1048591)) (.chan (some 1048591)) (.bool false)
theorem eeFixs36_ok (R : Nat → Int) (hR : ∀ j, 0 ≤ R j ∧ R j ≤ 255) (n0 : Nat) (t0 t1 t2 t3 t4 t5 f0 f1 f2 f3 f4 f5 kd : Int) (hb : eeFixB R n0 t0 t1 t2 t3 t4 t5 f0 f1 f2 f3 f4 f5 kd) : @EntOK (eeFixV R hR n0 t0 t1 t2 t3 t4 t5 f0 f1 f2 f3 f4 f5 kd) Try.prog eeFixs36 := by
  letI : Env := eeFixV R hR n0 t0 t1 t2 t3 t4 t5 f0 f1 f2 f3 f4 f5 kd
  have rb1048591 := hR 1048591; exact entCmp (k := .u8) (a := (R 1048591)) (b := (R 1048591)) rfl rfl (by show some (((R 1048591) : Int) != (R 1048591)) = some false; rw [bne_eq_false_iff_eq.2 (by first | omega | (simp only [sumVal, oct.sumF, oct.F, oct.ws]; omega))])
def eeFixs37 : Ent := .bin .neq (.chan (some 1048592)) (.chan (some 1048592)) (.bool false)
theorem eeFixs37_ok (R : Nat → Int) (hR : ∀ j, 0 ≤ R j ∧ R j ≤ 255) (n0 : Nat) (t0 t1 t2 t3 t4 t5 f0 f1 f2 f3 f4 f5 kd : Int) (hb : eeFixB R n0 t0 t1 t2 t3 t4 t5 f0 f1 f2 f3 f4 f5 kd) : @EntOK (eeFixV R hR n0 t0 t1 t2 t3 t4 t5 f0 f1 f2 f3 f4 f5 kd) Try.prog eeFixs37 := by
  letI : Env := eeFixV R hR n0 t0 t1 t2 t3 t4 t5 f0 f1 f2 f3 f4 f5 kd
  have rb1048592 := hR 1048592; exact entCmp (k := .u8) (a := (R 1048592)) (b := (R 1048592)) rfl rfl (by show some (((R 1048592) : Int) != (R 1048592)) = some false; rw [bne_eq_false_iff_eq.2 (by first | omega | (simp only [sumVal, oct.sumF, oct.F, oct.ws]; omega))])
def eeFixs38 : Ent := .bin .neq (.chan (some 1048593)) (.chan (some 1048593)) (.bool false)
theorem eeFixs38_ok (R : Nat → Int) (hR : ∀ j, 0 ≤ R j ∧ R j ≤ 255) (n0 : Nat) (t0 t1 t2 t3 t4 t5 f0 f1 f2 f3 f4 f5 kd : Int) (hb : eeFixB R n0 t0 t1 t2 t3 t4 t5 f0 f1 f2 f3 f4 f5 kd) : @EntOK (eeFixV R hR n0 t0 t1 t2 t3 t4 t5 f0 f1 f2 f3 f4 f5 kd) Try.prog eeFixs38 := by
  letI : Env := eeFixV R hR n0 t0 t1 t2 t3 t4 t5 f0 f1 f2 f3 f4 f5 kd
  have rb1048593 := hR 1048593; exact entCmp (k := .u8) (a := (R 1048593)) (b := (R 1048593)) rfl rfl (by show some (((R 1048593) : Int) != (R 1048593)) = some false; rw [bne_eq_false_iff_eq.2 (by first | omega | (simp only [sumVal, oct.sumF, oct.F, oct.ws]; omega))])
def eeFixs39 : Ent := .bin .neq (.chan (some 1048594)) (.chan (some 1048594)) (.bool false)
theorem eeFixs39_ok (R : Nat → Int) (hR : ∀ j, 0 ≤ R j ∧ R j ≤ 255) (n0 : Nat) (t0 t1 t2 t3 t4 t5 f0 f1 f2 f3 f4 f5 kd : Int) (hb : eeFixB R n0 t0 t1 t2 t3 t4 t5 f0 f1 f2 f3 f4 f5 kd) : @EntOK (eeFixV R hR n0 t0 t1 t2 t3 t4 t5 f0 f1 f2 f3 f4 f5 kd) Try.prog eeFixs39 := by
  letI : Env := eeFixV R hR n0 t0 t1 t2 t3 t4 t5 f0 f1 f2 f3 f4 f5 kd
  have rb1048594 := hR 1048594; exact entCmp (k := .u8) (a := (R 1048594)) (b := (R 1048594)) rfl rfl (by show some (((R 1048594) : Int) != (R 1048594)) = some false; rw [bne_eq_false_iff_eq.2 (by first | omega | (simp only [sumVal, oct.sumF, oct.F, oct.ws]; omega))])
def eeFixs40 : Ent := .bin .neq (.chan (some 1048595)) (.chan (some 1048595)) (.bool false)
theorem eeFixs40_ok (R : Nat → Int) (hR : ∀ j, 0 ≤ R j ∧ R j ≤ 255) (n0 : Nat) (t0 t1 t2 t3 t4 t5 f0 f1 f2 f3 f4 f5 kd : Int) (hb : eeFixB R n0 t0 t1 t2 t3 t4 t5 f0 f1 f2 f3 f4 f5 kd) : @EntOK (eeFixV R hR n0 t0 t1 t2 t3 t4 t5 f0 f1 f2 f3 f4 f5 kd) Try.prog eeFixs40 := by
  letI : Env := eeFixV R hR n0 t0 t1 t2 t3 t4 t5 f0 f1 f2 f3 f4 f5 kd
  have rb1048595 := hR 1048595; exact entCmp (k := .u8) (a := (R 1048595)) (b := (R 1048595)) rfl rfl (by show some (((R 1048595) : Int) != (R 1048595)) = some false; rw [bne_eq_false_iff_eq.2 (by first | omega | (simp only [sumVal, oct.sumF, oct.F, oct.ws]; omega))])
end Go.Proofs.Ytiihhngddmboaaa.ev
