/-
  ArpDecodes, by a run of each path over rows of bytes that are not looked into. Conditions: none.
-/
import Derived.Test.YtojechkpkjlgkaaEvR5da
import Derived.KernelRfl
import Derived.DeepKeys
namespace Go.Proofs.Ytojechkpkjlgkaa.ev
set_option maxRecDepth 1000000
set_option linter.unusedVariables false
set_option linter.unusedSimpArgs false
open Go.ChangeShapes Go.WideShapes Go.ChangeAt Go.RowKit Go.IntWalk Go.Lib
abbrev ArpDecodesRow5V (R : Nat → Int) (hR : ∀ j, 0 ≤ R j ∧ R j ≤ 255) (n0 : Nat) : Env := envR [.int .i64 (n0 : Int), .int .u32 (R 1048582), .int .u32 (R 1048582), .int .u32 ((R 1048582) * 256), .int .u32 (R 1048583), .int .u32 (((R 1048582) * 256) + (R 1048583)), .int .i64 (((R 1048582) * 256) + (R 1048583))] R hR
def ArpDecodesRow5K (R : Nat → Int) (n0 : Nat) : Prop := (¬ ((n0 : Int) > 4000)) ∧ (¬ ((n0 : Int) < 28)) ∧ ((R 1048576) = 0) ∧ ((R 1048577) = 1) ∧ ((R 1048578) = 8) ∧ ((R 1048579) = 0) ∧ ((R 1048580) = 6) ∧ ((R 1048581) = 4) ∧ (¬ ((((R 1048582) * 256) + (R 1048583)) = 1)) ∧ (¬ ((((R 1048582) * 256) + (R 1048583)) = 2)) ∧ (¬ ((R 1048582) = 0)) ∧ True
def ArpDecodesRow5e0 : Ent := .bin .gtr (.chan (some 0)) (.int .i64 4000) (.bool false)
theorem ArpDecodesRow5e0_ok (w : World) (R : Nat → Int) (hR : ∀ j, 0 ≤ R j ∧ R j ≤ 255) (A0 : Addr) (n0 cp0 : Nat) (w0 : RowIn R 1048576 w A0 n0 cp0) (hn : n0 ≤ 70000) (hm : 1 ≤ n0) (hk : ArpDecodesRow5K R n0) : @EntOK (ArpDecodesRow5V R hR n0) Try.prog ArpDecodesRow5e0 := by
  letI : Env := (ArpDecodesRow5V R hR n0)
  obtain ⟨k0, k1, k2, k3, k4, k5, k6, k7, k8, k9, k10, _⟩ := hk; have rb1048576 := hR 1048576; have rb1048577 := hR 1048577; have rb1048578 := hR 1048578; have rb1048579 := hR 1048579; have rb1048580 := hR 1048580; have rb1048581 := hR 1048581; have rb1048582 := hR 1048582; have rb1048583 := hR 1048583; exact entCmp (k := .i64) (a := (n0 : Int)) (b := 4000) rfl rfl (by show some (decide (((n0 : Int) : Int) > 4000)) = some false; rw [decide_eq_false (by first | omega | (simp only [sumVal, oct.sumF, oct.F, oct.ws]; omega))])
def ArpDecodesRow5e1 : Ent := .bin .lss (.chan (some 0)) (.int .i64 28) (.bool false)
theorem ArpDecodesRow5e1_ok (w : World) (R : Nat → Int) (hR : ∀ j, 0 ≤ R j ∧ R j ≤ 255) (A0 : Addr) (n0 cp0 : Nat) (w0 : RowIn R 1048576 w A0 n0 cp0) (hn : n0 ≤ 70000) (hm : 1 ≤ n0) (hk : ArpDecodesRow5K R n0) : @EntOK (ArpDecodesRow5V R hR n0) Try.prog ArpDecodesRow5e1 := by
  letI : Env := (ArpDecodesRow5V R hR n0)
  obtain ⟨k0, k1, k2, k3, k4, k5, k6, k7, k8, k9, k10, _⟩ := hk; have rb1048576 := hR 1048576; have rb1048577 := hR 1048577; have rb1048578 := hR 1048578; have rb1048579 := hR 1048579; have rb1048580 := hR 1048580; have rb1048581 := hR 1048581; have rb1048582 := hR 1048582; have rb1048583 := hR 1048583; exact entCmp (k := .i64) (a := (n0 : Int)) (b := 28) rfl rfl (by show some (decide (((n0 : Int) : Int) < 28)) = some false; rw [decide_eq_false (by first | omega | (simp only [sumVal, oct.sumF, oct.F, oct.ws]; omega))])
def ArpDecodesRow5e2 : Ent := .conv .u32 (.chan (some 1048582)) (.chan (some 1))
theorem ArpDecodesRow5e2_ok (w : World) (R : Nat → Int) (hR : ∀ j, 0 ≤ R j ∧ R j ≤ 255) (A0 : Addr) (n0 cp0 : Nat) (w0 : RowIn R 1048576 w A0 n0 cp0) (hn : n0 ≤ 70000) (hm : 1 ≤ n0) (hk : ArpDecodesRow5K R n0) : @EntOK (ArpDecodesRow5V R hR n0) Try.prog ArpDecodesRow5e2 := by
  letI : Env := (ArpDecodesRow5V R hR n0)
  obtain ⟨k0, k1, k2, k3, k4, k5, k6, k7, k8, k9, k10, _⟩ := hk; have rb1048576 := hR 1048576; have rb1048577 := hR 1048577; have rb1048578 := hR 1048578; have rb1048579 := hR 1048579; have rb1048580 := hR 1048580; have rb1048581 := hR 1048581; have rb1048582 := hR 1048582; have rb1048583 := hR 1048583; exact entConvV (k := .u32) (l := .u8) (a := (R 1048582)) (c := (R 1048582)) rfl rfl (by rw [IntWalk.u32_in _ (by first | omega | (simp only [sumVal, oct.sumF, oct.F, oct.ws]; omega))])
def ArpDecodesRow5e3 : Ent := .bin .or (.int .u32 0) (.chan (some 1)) (.chan (some 2))
theorem ArpDecodesRow5e3_ok (w : World) (R : Nat → Int) (hR : ∀ j, 0 ≤ R j ∧ R j ≤ 255) (A0 : Addr) (n0 cp0 : Nat) (w0 : RowIn R 1048576 w A0 n0 cp0) (hn : n0 ≤ 70000) (hm : 1 ≤ n0) (hk : ArpDecodesRow5K R n0) : @EntOK (ArpDecodesRow5V R hR n0) Try.prog ArpDecodesRow5e3 := by
  letI : Env := (ArpDecodesRow5V R hR n0)
  obtain ⟨k0, k1, k2, k3, k4, k5, k6, k7, k8, k9, k10, _⟩ := hk; have rb1048576 := hR 1048576; have rb1048577 := hR 1048577; have rb1048578 := hR 1048578; have rb1048579 := hR 1048579; have rb1048580 := hR 1048580; have rb1048581 := hR 1048581; have rb1048582 := hR 1048582; have rb1048583 := hR 1048583; exact entOrV (k := .u32) (a := 0) (b := (R 1048582)) (c := (R 1048582)) rfl rfl rfl (by have h := join_u32 0 (R 1048582) 8 256 (by decide) (by omega) (by first | omega | (simp only [sumVal, oct.sumF, oct.F, oct.ws]; omega)) (by first | omega | (simp only [sumVal, oct.sumF, oct.F, oct.ws]; omega)) (by first | omega | (simp only [sumVal, oct.sumF, oct.F, oct.ws]; omega)); simpa using h)
def ArpDecodesRow5e4 : Ent := .bin .shl (.chan (some 2)) (.int .u64 8) (.chan (some 3))
theorem ArpDecodesRow5e4_ok (w : World) (R : Nat → Int) (hR : ∀ j, 0 ≤ R j ∧ R j ≤ 255) (A0 : Addr) (n0 cp0 : Nat) (w0 : RowIn R 1048576 w A0 n0 cp0) (hn : n0 ≤ 70000) (hm : 1 ≤ n0) (hk : ArpDecodesRow5K R n0) : @EntOK (ArpDecodesRow5V R hR n0) Try.prog ArpDecodesRow5e4 := by
  letI : Env := (ArpDecodesRow5V R hR n0)
  obtain ⟨k0, k1, k2, k3, k4, k5, k6, k7, k8, k9, k10, _⟩ := hk; have rb1048576 := hR 1048576; have rb1048577 := hR 1048577; have rb1048578 := hR 1048578; have rb1048579 := hR 1048579; have rb1048580 := hR 1048580; have rb1048581 := hR 1048581; have rb1048582 := hR 1048582; have rb1048583 := hR 1048583; exact entShlV (k := .u32) (l := .u64) (a := (R 1048582)) (c := ((R 1048582) * 256)) (s := 8) rfl rfl rfl (by decide) (by show IntKind.u32.wrap ((R 1048582) * 2 ^ 8) = ((R 1048582) * 256); rw [show ((2 : Int) ^ 8) = 256 from by decide, IntWalk.u32_in _ (by first | omega | (simp only [sumVal, oct.sumF, oct.F, oct.ws]; omega))])
def ArpDecodesRow5e5 : Ent := .conv .u32 (.chan (some 1048583)) (.chan (some 4))
theorem ArpDecodesRow5e5_ok (w : World) (R : Nat → Int) (hR : ∀ j, 0 ≤ R j ∧ R j ≤ 255) (A0 : Addr) (n0 cp0 : Nat) (w0 : RowIn R 1048576 w A0 n0 cp0) (hn : n0 ≤ 70000) (hm : 1 ≤ n0) (hk : ArpDecodesRow5K R n0) : @EntOK (ArpDecodesRow5V R hR n0) Try.prog ArpDecodesRow5e5 := by
  letI : Env := (ArpDecodesRow5V R hR n0)
  obtain ⟨k0, k1, k2, k3, k4, k5, k6, k7, k8, k9, k10, _⟩ := hk; have rb1048576 := hR 1048576; have rb1048577 := hR 1048577; have rb1048578 := hR 1048578; have rb1048579 := hR 1048579; have rb1048580 := hR 1048580; have rb1048581 := hR 1048581; have rb1048582 := hR 1048582; have rb1048583 := hR 1048583; exact entConvV (k := .u32) (l := .u8) (a := (R 1048583)) (c := (R 1048583)) rfl rfl (by rw [IntWalk.u32_in _ (by first | omega | (simp only [sumVal, oct.sumF, oct.F, oct.ws]; omega))])
def ArpDecodesRow5e6 : Ent := .bin .or (.chan (some 3)) (.chan (some 4)) (.chan (some 5))
theorem ArpDecodesRow5e6_ok (w : World) (R : Nat → Int) (hR : ∀ j, 0 ≤ R j ∧ R j ≤ 255) (A0 : Addr) (n0 cp0 : Nat) (w0 : RowIn R 1048576 w A0 n0 cp0) (hn : n0 ≤ 70000) (hm : 1 ≤ n0) (hk : ArpDecodesRow5K R n0) : @EntOK (ArpDecodesRow5V R hR n0) Try.prog ArpDecodesRow5e6 := by
  letI : Env := (ArpDecodesRow5V R hR n0)
  obtain ⟨k0, k1, k2, k3, k4, k5, k6, k7, k8, k9, k10, _⟩ := hk; have rb1048576 := hR 1048576; have rb1048577 := hR 1048577; have rb1048578 := hR 1048578; have rb1048579 := hR 1048579; have rb1048580 := hR 1048580; have rb1048581 := hR 1048581; have rb1048582 := hR 1048582; have rb1048583 := hR 1048583; exact entOrV (k := .u32) (a := ((R 1048582) * 256)) (b := (R 1048583)) (c := (((R 1048582) * 256) + (R 1048583))) rfl rfl rfl (by exact join_u32 (R 1048582) (R 1048583) 8 256 (by decide) (by first | omega | (simp only [sumVal, oct.sumF, oct.F, oct.ws]; omega)) (by first | omega | (simp only [sumVal, oct.sumF, oct.F, oct.ws]; omega)) (by first | omega | (simp only [sumVal, oct.sumF, oct.F, oct.ws]; omega)) (by first | omega | (simp only [sumVal, oct.sumF, oct.F, oct.ws]; omega)))
def ArpDecodesRow5e7 : Ent := .conv .i64 (.chan (some 5)) (.chan (some 6))
theorem ArpDecodesRow5e7_ok (w : World) (R : Nat → Int) (hR : ∀ j, 0 ≤ R j ∧ R j ≤ 255) (A0 : Addr) (n0 cp0 : Nat) (w0 : RowIn R 1048576 w A0 n0 cp0) (hn : n0 ≤ 70000) (hm : 1 ≤ n0) (hk : ArpDecodesRow5K R n0) : @EntOK (ArpDecodesRow5V R hR n0) Try.prog ArpDecodesRow5e7 := by
  letI : Env := (ArpDecodesRow5V R hR n0)
  obtain ⟨k0, k1, k2, k3, k4, k5, k6, k7, k8, k9, k10, _⟩ := hk; have rb1048576 := hR 1048576; have rb1048577 := hR 1048577; have rb1048578 := hR 1048578; have rb1048579 := hR 1048579; have rb1048580 := hR 1048580; have rb1048581 := hR 1048581; have rb1048582 := hR 1048582; have rb1048583 := hR 1048583; exact entConvV (k := .i64) (l := .u32) (a := (((R 1048582) * 256) + (R 1048583))) (c := (((R 1048582) * 256) + (R 1048583))) rfl rfl (by rw [IntWalk.i64_in _ (by first | omega | (simp only [sumVal, oct.sumF, oct.F, oct.ws]; omega))])
def ArpDecodesRow5e8 : Ent := .bin .eql (.chan (some 1048576)) (.int .u8 0) (.bool true)
theorem ArpDecodesRow5e8_ok (w : World) (R : Nat → Int) (hR : ∀ j, 0 ≤ R j ∧ R j ≤ 255) (A0 : Addr) (n0 cp0 : Nat) (w0 : RowIn R 1048576 w A0 n0 cp0) (hn : n0 ≤ 70000) (hm : 1 ≤ n0) (hk : ArpDecodesRow5K R n0) : @EntOK (ArpDecodesRow5V R hR n0) Try.prog ArpDecodesRow5e8 := by
  letI : Env := (ArpDecodesRow5V R hR n0)
  obtain ⟨k0, k1, k2, k3, k4, k5, k6, k7, k8, k9, k10, _⟩ := hk; have rb1048576 := hR 1048576; have rb1048577 := hR 1048577; have rb1048578 := hR 1048578; have rb1048579 := hR 1048579; have rb1048580 := hR 1048580; have rb1048581 := hR 1048581; have rb1048582 := hR 1048582; have rb1048583 := hR 1048583; exact entCmp (k := .u8) (a := (R 1048576)) (b := 0) rfl rfl (by show some (((R 1048576) : Int) == 0) = some true; rw [beq_iff_eq.2 (by first | omega | (simp only [sumVal, oct.sumF, oct.F, oct.ws]; omega))])
def ArpDecodesRow5e9 : Ent := .bin .eql (.chan (some 1048577)) (.int .u8 1) (.bool true)
theorem ArpDecodesRow5e9_ok (w : World) (R : Nat → Int) (hR : ∀ j, 0 ≤ R j ∧ R j ≤ 255) (A0 : Addr) (n0 cp0 : Nat) (w0 : RowIn R 1048576 w A0 n0 cp0) (hn : n0 ≤ 70000) (hm : 1 ≤ n0) (hk : ArpDecodesRow5K R n0) : @EntOK (ArpDecodesRow5V R hR n0) Try.prog ArpDecodesRow5e9 := by
  letI : Env := (ArpDecodesRow5V R hR n0)
  obtain ⟨k0, k1, k2, k3, k4, k5, k6, k7, k8, k9, k10, _⟩ := hk; have rb1048576 := hR 1048576; have rb1048577 := hR 1048577; have rb1048578 := hR 1048578; have rb1048579 := hR 1048579; have rb1048580 := hR 1048580; have rb1048581 := hR 1048581; have rb1048582 := hR 1048582; have rb1048583 := hR 1048583; exact entCmp (k := .u8) (a := (R 1048577)) (b := 1) rfl rfl (by show some (((R 1048577) : Int) == 1) = some true; rw [beq_iff_eq.2 (by first | omega | (simp only [sumVal, oct.sumF, oct.F, oct.ws]; omega))])
def ArpDecodesRow5e10 : Ent := .bin .eql (.chan (some 1048578)) (.int .u8 8) (.bool true)
theorem ArpDecodesRow5e10_ok (w : World) (R : Nat → Int) (hR : ∀ j, 0 ≤ R j ∧ R j ≤ 255) (A0 : Addr) (n0 cp0 : Nat) (w0 : RowIn R 1048576 w A0 n0 cp0) (hn : n0 ≤ 70000) (hm : 1 ≤ n0) (hk : ArpDecodesRow5K R n0) : @EntOK (ArpDecodesRow5V R hR n0) Try.prog ArpDecodesRow5e10 := by
  letI : Env := (ArpDecodesRow5V R hR n0)
  obtain ⟨k0, k1, k2, k3, k4, k5, k6, k7, k8, k9, k10, _⟩ := hk; have rb1048576 := hR 1048576; have rb1048577 := hR 1048577; have rb1048578 := hR 1048578; have rb1048579 := hR 1048579; have rb1048580 := hR 1048580; have rb1048581 := hR 1048581; have rb1048582 := hR 1048582; have rb1048583 := hR 1048583; exact entCmp (k := .u8) (a := (R 1048578)) (b := 8) rfl rfl (by show some (((R 1048578) : Int) == 8) = some true; rw [beq_iff_eq.2 (by first | omega | (simp only [sumVal, oct.sumF, oct.F, oct.ws]; omega))])
def ArpDecodesRow5e11 : Ent := .bin .eql (.chan (some 1048579)) (.int .u8 0) (.bool true)
theorem ArpDecodesRow5e11_ok (w : World) (R : Nat → Int) (hR : ∀ j, 0 ≤ R j ∧ R j ≤ 255) (A0 : Addr) (n0 cp0 : Nat) (w0 : RowIn R 1048576 w A0 n0 cp0) (hn : n0 ≤ 70000) (hm : 1 ≤ n0) (hk : ArpDecodesRow5K R n0) : @EntOK (ArpDecodesRow5V R hR n0) Try.prog ArpDecodesRow5e11 := by
  letI : Env := (ArpDecodesRow5V R hR n0)
  obtain ⟨k0, k1, k2, k3, k4, k5, k6, k7, k8, k9, k10, _⟩ := hk; have rb1048576 := hR 1048576; have rb1048577 := hR 1048577; have rb1048578 := hR 1048578; have rb1048579 := hR 1048579; have rb1048580 := hR 1048580; have rb1048581 := hR 1048581; have rb1048582 := hR 1048582; have rb1048583 := hR 1048583; exact entCmp (k := .u8) (a := (R 1048579)) (b := 0) rfl rfl (by show some (((R 1048579) : Int) == 0) = some true; rw [beq_iff_eq.2 (by first | omega | (simp only [sumVal, oct.sumF, oct.F, oct.ws]; omega))])
def ArpDecodesRow5e12 : Ent := .bin .eql (.chan (some 1048580)) (.int .u8 6) (.bool true)
theorem ArpDecodesRow5e12_ok (w : World) (R : Nat → Int) (hR : ∀ j, 0 ≤ R j ∧ R j ≤ 255) (A0 : Addr) (n0 cp0 : Nat) (w0 : RowIn R 1048576 w A0 n0 cp0) (hn : n0 ≤ 70000) (hm : 1 ≤ n0) (hk : ArpDecodesRow5K R n0) : @EntOK (ArpDecodesRow5V R hR n0) Try.prog ArpDecodesRow5e12 := by
  letI : Env := (ArpDecodesRow5V R hR n0)
  obtain ⟨k0, k1, k2, k3, k4, k5, k6, k7, k8, k9, k10, _⟩ := hk; have rb1048576 := hR 1048576; have rb1048577 := hR 1048577; have rb1048578 := hR 1048578; have rb1048579 := hR 1048579; have rb1048580 := hR 1048580; have rb1048581 := hR 1048581; have rb1048582 := hR 1048582; have rb1048583 := hR 1048583; exact entCmp (k := .u8) (a := (R 1048580)) (b := 6) rfl rfl (by show some (((R 1048580) : Int) == 6) = some true; rw [beq_iff_eq.2 (by first | omega | (simp only [sumVal, oct.sumF, oct.F, oct.ws]; omega))])
def ArpDecodesRow5e13 : Ent := .bin .eql (.chan (some 1048581)) (.int .u8 4) (.bool true)
theorem ArpDecodesRow5e13_ok (w : World) (R : Nat → Int) (hR : ∀ j, 0 ≤ R j ∧ R j ≤ 255) (A0 : Addr) (n0 cp0 : Nat) (w0 : RowIn R 1048576 w A0 n0 cp0) (hn : n0 ≤ 70000) (hm : 1 ≤ n0) (hk : ArpDecodesRow5K R n0) : @EntOK (ArpDecodesRow5V R hR n0) Try.prog ArpDecodesRow5e13 := by
  letI : Env := (ArpDecodesRow5V R hR n0)
  obtain ⟨k0, k1, k2, k3, k4, k5, k6, k7, k8, k9, k10, _⟩ := hk; have rb1048576 := hR 1048576; have rb1048577 := hR 1048577; have rb1048578 := hR 1048578; have rb1048579 := hR 1048579; have rb1048580 := hR 1048580; have rb1048581 := hR 1048581; have rb1048582 := hR 1048582; have rb1048583 := hR 1048583; exact entCmp (k := .u8) (a := (R 1048581)) (b := 4) rfl rfl (by show some (((R 1048581) : Int) == 4) = some true; rw [beq_iff_eq.2 (by first | omega | (simp only [sumVal, oct.sumF, oct.F, oct.ws]; omega))])
def ArpDecodesRow5e14 : Ent := .bin .neq (.chan (some 6)) (.int .i64 1) (.bool true)
theorem ArpDecodesRow5e14_ok (w : World) (R : Nat → Int) (hR : ∀ j, 0 ≤ R j ∧ R j ≤ 255) (A0 : Addr) (n0 cp0 : Nat) (w0 : RowIn R 1048576 w A0 n0 cp0) (hn : n0 ≤ 70000) (hm : 1 ≤ n0) (hk : ArpDecodesRow5K R n0) : @EntOK (ArpDecodesRow5V R hR n0) Try.prog ArpDecodesRow5e14 := by
  letI : Env := (ArpDecodesRow5V R hR n0)
  obtain ⟨k0, k1, k2, k3, k4, k5, k6, k7, k8, k9, k10, _⟩ := hk; have rb1048576 := hR 1048576; have rb1048577 := hR 1048577; have rb1048578 := hR 1048578; have rb1048579 := hR 1048579; have rb1048580 := hR 1048580; have rb1048581 := hR 1048581; have rb1048582 := hR 1048582; have rb1048583 := hR 1048583; exact entCmp (k := .i64) (a := (((R 1048582) * 256) + (R 1048583))) (b := 1) rfl rfl (by show some (((((R 1048582) * 256) + (R 1048583)) : Int) != 1) = some true; rw [bne_iff_ne.2 (by first | omega | (simp only [sumVal, oct.sumF, oct.F, oct.ws]; omega))])
def ArpDecodesRow5e15 : Ent := .bin .neq (.chan (some 6)) (.int .i64 2) (.bool true)
theorem ArpDecodesRow5e15_ok (w : World) (R : Nat → Int) (hR : ∀ j, 0 ≤ R j ∧ R j ≤ 255) (A0 : Addr) (n0 cp0 : Nat) (w0 : RowIn R 1048576 w A0 n0 cp0) (hn : n0 ≤ 70000) (hm : 1 ≤ n0) (hk : ArpDecodesRow5K R n0) : @EntOK (ArpDecodesRow5V R hR n0) Try.prog ArpDecodesRow5e15 := by
  letI : Env := (ArpDecodesRow5V R hR n0)
  obtain ⟨k0, k1, k2, k3, k4, k5, k6, k7, k8, k9, k10, _⟩ := hk; have rb1048576 := hR 1048576; have rb1048577 := hR 1048577; have rb1048578 := hR 1048578; have rb1048579 := hR 1048579; have rb1048580 := hR 1048580; have rb1048581 := hR 1048581; have rb1048582 := hR 1048582; have rb1048583 := hR 1048583; exact entCmp (k := .i64) (a := (((R 1048582) * 256) + (R 1048583))) (b := 2) rfl rfl (by show some (((((R 1048582) * 256) + (R 1048583)) : Int) != 2) = some true; rw [bne_iff_ne.2 (by first | omega | (simp only [sumVal, oct.sumF, oct.F, oct.ws]; omega))])
def ArpDecodesRow5e16 : Ent := .bin .neq (.chan (some 1048576)) (.int .u8 0) (.bool false)
theorem ArpDecodesRow5e16_ok (w : World) (R : Nat → Int) (hR : ∀ j, 0 ≤ R j ∧ R j ≤ 255) (A0 : Addr) (n0 cp0 : Nat) (w0 : RowIn R 1048576 w A0 n0 cp0) (hn : n0 ≤ 70000) (hm : 1 ≤ n0) (hk : ArpDecodesRow5K R n0) : @EntOK (ArpDecodesRow5V R hR n0) Try.prog ArpDecodesRow5e16 := by
  letI : Env := (ArpDecodesRow5V R hR n0)
  obtain ⟨k0, k1, k2, k3, k4, k5, k6, k7, k8, k9, k10, _⟩ := hk; have rb1048576 := hR 1048576; have rb1048577 := hR 1048577; have rb1048578 := hR 1048578; have rb1048579 := hR 1048579; have rb1048580 := hR 1048580; have rb1048581 := hR 1048581; have rb1048582 := hR 1048582; have rb1048583 := hR 1048583; exact entCmp (k := .u8) (a := (R 1048576)) (b := 0) rfl rfl (by show some (((R 1048576) : Int) != 0) = some false; rw [bne_eq_false_iff_eq.2 (by first | omega | (simp only [sumVal, oct.sumF, oct.F, oct.ws]; omega))])
def ArpDecodesRow5e17 : Ent := .bin .neq (.chan (some 1048577)) (.int .u8 1) (.bool false)
theorem ArpDecodesRow5e17_ok (w : World) (R : Nat → Int) (hR : ∀ j, 0 ≤ R j ∧ R j ≤ 255) (A0 : Addr) (n0 cp0 : Nat) (w0 : RowIn R 1048576 w A0 n0 cp0) (hn : n0 ≤ 70000) (hm : 1 ≤ n0) (hk : ArpDecodesRow5K R n0) : @EntOK (ArpDecodesRow5V R hR n0) Try.prog ArpDecodesRow5e17 := by
  letI : Env := (ArpDecodesRow5V R hR n0)
  obtain ⟨k0, k1, k2, k3, k4, k5, k6, k7, k8, k9, k10, _⟩ := hk; have rb1048576 := hR 1048576; have rb1048577 := hR 1048577; have rb1048578 := hR 1048578; have rb1048579 := hR 1048579; have rb1048580 := hR 1048580; have rb1048581 := hR 1048581; have rb1048582 := hR 1048582; have rb1048583 := hR 1048583; exact entCmp (k := .u8) (a := (R 1048577)) (b := 1) rfl rfl (by show some (((R 1048577) : Int) != 1) = some false; rw [bne_eq_false_iff_eq.2 (by first | omega | (simp only [sumVal, oct.sumF, oct.F, oct.ws]; omega))])
def ArpDecodesRow5e18 : Ent := .bin .neq (.chan (some 1048578)) (.int .u8 8) (.bool false)
theorem ArpDecodesRow5e18_ok (w : World) (R : Nat → Int) (hR : ∀ j, 0 ≤ R j ∧ R j ≤ 255) (A0 : Addr) (n0 cp0 : Nat) (w0 : RowIn R 1048576 w A0 n0 cp0) (hn : n0 ≤ 70000) (hm : 1 ≤ n0) (hk : ArpDecodesRow5K R n0) : @EntOK (ArpDecodesRow5V R hR n0) Try.prog ArpDecodesRow5e18 := by
  letI : Env := (ArpDecodesRow5V R hR n0)
  obtain ⟨k0, k1, k2, k3, k4, k5, k6, k7, k8, k9, k10, _⟩ := hk; have rb1048576 := hR 1048576; have rb1048577 := hR 1048577; have rb1048578 := hR 1048578; have rb1048579 := hR 1048579; have rb1048580 := hR 1048580; have rb1048581 := hR 1048581; have rb1048582 := hR 1048582; have rb1048583 := hR 1048583; exact entCmp (k := .u8) (a := (R 1048578)) (b := 8) rfl rfl (by show some (((R 1048578) : Int) != 8) = some false; rw [bne_eq_false_iff_eq.2 (by first | omega | (simp only [sumVal, oct.sumF, oct.F, oct.ws]; omega))])
def ArpDecodesRow5e19 : Ent := .bin .neq (.chan (some 1048579)) (.int .u8 0) (.bool false)
theorem ArpDecodesRow5e19_ok (w : World) (R : Nat → Int) (hR : ∀ j, 0 ≤ R j ∧ R j ≤ 255) (A0 : Addr) (n0 cp0 : Nat) (w0 : RowIn R 1048576 w A0 n0 cp0) (hn : n0 ≤ 70000) (hm : 1 ≤ n0) (hk : ArpDecodesRow5K R n0) : @EntOK (ArpDecodesRow5V R hR n0) Try.prog ArpDecodesRow5e19 := by
  letI : Env := (ArpDecodesRow5V R hR n0)
  obtain ⟨k0, k1, k2, k3, k4, k5, k6, k7, k8, k9, k10, _⟩ := hk; have rb1048576 := hR 1048576; have rb1048577 := hR 1048577; have rb1048578 := hR 1048578; have rb1048579 := hR 1048579; have rb1048580 := hR 1048580; have rb1048581 := hR 1048581; have rb1048582 := hR 1048582; have rb1048583 := hR 1048583; exact entCmp (k := .u8) (a := (R 1048579)) (b := 0) rfl rfl (by show some (((R 1048579) : Int) != 0) = some false; rw [bne_eq_false_iff_eq.2 (by first | omega | (simp only [sumVal, oct.sumF, oct.F, oct.ws]; omega))])
def ArpDecodesRow5e20 : Ent := .bin .neq (.chan (some 1048580)) (.int .u8 6) (.bool false)
theorem ArpDecodesRow5e20_ok (w : World) (R : Nat → Int) (hR : ∀ j, 0 ≤ R j ∧ R j ≤ 255) (A0 : Addr) (n0 cp0 : Nat) (w0 : RowIn R 1048576 w A0 n0 cp0) (hn : n0 ≤ 70000) (hm : 1 ≤ n0) (hk : ArpDecodesRow5K R n0) : @EntOK (ArpDecodesRow5V R hR n0) Try.prog ArpDecodesRow5e20 := by
  letI : Env := (ArpDecodesRow5V R hR n0)
  obtain ⟨k0, k1, k2, k3, k4, k5, k6, k7, k8, k9, k10, _⟩ := hk; have rb1048576 := hR 1048576; have rb1048577 := hR 1048577; have rb1048578 := hR 1048578; have rb1048579 := hR 1048579; have rb1048580 := hR 1048580; have rb1048581 := hR 1048581; have rb1048582 := hR 1048582; have rb1048583 := hR 1048583; exact entCmp (k := .u8) (a := (R 1048580)) (b := 6) rfl rfl (by show some (((R 1048580) : Int) != 6) = some false; rw [bne_eq_false_iff_eq.2 (by first | omega | (simp only [sumVal, oct.sumF, oct.F, oct.ws]; omega))])
def ArpDecodesRow5e21 : Ent := .bin .neq (.chan (some 1048581)) (.int .u8 4) (.bool false)
theorem ArpDecodesRow5e21_ok (w : World) (R : Nat → Int) (hR : ∀ j, 0 ≤ R j ∧ R j ≤ 255) (A0 : Addr) (n0 cp0 : Nat) (w0 : RowIn R 1048576 w A0 n0 cp0) (hn : n0 ≤ 70000) (hm : 1 ≤ n0) (hk : ArpDecodesRow5K R n0) : @EntOK (ArpDecodesRow5V R hR n0) Try.prog ArpDecodesRow5e21 := by
  letI : Env := (ArpDecodesRow5V R hR n0)
  obtain ⟨k0, k1, k2, k3, k4, k5, k6, k7, k8, k9, k10, _⟩ := hk; have rb1048576 := hR 1048576; have rb1048577 := hR 1048577; have rb1048578 := hR 1048578; have rb1048579 := hR 1048579; have rb1048580 := hR 1048580; have rb1048581 := hR 1048581; have rb1048582 := hR 1048582; have rb1048583 := hR 1048583; exact entCmp (k := .u8) (a := (R 1048581)) (b := 4) rfl rfl (by show some (((R 1048581) : Int) != 4) = some false; rw [bne_eq_false_iff_eq.2 (by first | omega | (simp only [sumVal, oct.sumF, oct.F, oct.ws]; omega))])
def ArpDecodesRow5e22 : Ent := .bin .neq (.chan (some 1048582)) (.int .u8 0) (.bool true)
theorem ArpDecodesRow5e22_ok (w : World) (R : Nat → Int) (hR : ∀ j, 0 ≤ R j ∧ R j ≤ 255) (A0 : Addr) (n0 cp0 : Nat) (w0 : RowIn R 1048576 w A0 n0 cp0) (hn : n0 ≤ 70000) (hm : 1 ≤ n0) (hk : ArpDecodesRow5K R n0) : @EntOK (ArpDecodesRow5V R hR n0) Try.prog ArpDecodesRow5e22 := by
  letI : Env := (ArpDecodesRow5V R hR n0)
  obtain ⟨k0, k1, k2, k3, k4, k5, k6, k7, k8, k9, k10, _⟩ := hk; have rb1048576 := hR 1048576; have rb1048577 := hR 1048577; have rb1048578 := hR 1048578; have rb1048579 := hR 1048579; have rb1048580 := hR 1048580; have rb1048581 := hR 1048581; have rb1048582 := hR 1048582; have rb1048583 := hR 1048583; exact entCmp (k := .u8) (a := (R 1048582)) (b := 0) rfl rfl (by show some (((R 1048582) : Int) != 0) = some true; rw [bne_iff_ne.2 (by first | omega | (simp only [sumVal, oct.sumF, oct.F, oct.ws]; omega))])
set_option maxHeartbeats 4000000 in
theorem ArpDecodesRow5 (w : World) (R : Nat → Int) (hR : ∀ j, 0 ≤ R j ∧ R j ≤ 255) (A0 : Addr) (n0 cp0 : Nat) (w0 : RowIn R 1048576 w A0 n0 cp0) (hn : n0 ≤ 70000) (hm : 1 ≤ n0) (k0 : ¬ ((n0 : Int) > 4000)) (k1 : ¬ ((n0 : Int) < 28)) (k2 : (R 1048576) = 0) (k3 : (R 1048577) = 1) (k4 : (R 1048578) = 8) (k5 : (R 1048579) = 0) (k6 : (R 1048580) = 6) (k7 : (R 1048581) = 4) (k8 : ¬ ((((R 1048582) * 256) + (R 1048583)) = 1)) (k9 : ¬ ((((R 1048582) * 256) + (R 1048583)) = 2)) (k10 : ¬ ((R 1048582) = 0)) : Calls Try.prog 4 #[.slice (some A0) n0 cp0] w (fun e w' => e = .returned (.bool true) ∧ Only [] w w') := by
  letI : Env := (ArpDecodesRow5V R hR n0)
  have hk : ArpDecodesRow5K R n0 := ⟨k0, k1, k2, k3, k4, k5, k6, k7, k8, k9, k10, trivial⟩
  have hents : ∀ e ∈ ([ArpDecodesRow5e0, ArpDecodesRow5e1, ArpDecodesRow5e2, ArpDecodesRow5e3, ArpDecodesRow5e4, ArpDecodesRow5e5, ArpDecodesRow5e6, ArpDecodesRow5e7, ArpDecodesRow5e8, ArpDecodesRow5e9, ArpDecodesRow5e10, ArpDecodesRow5e11, ArpDecodesRow5e12, ArpDecodesRow5e13, ArpDecodesRow5e14, ArpDecodesRow5e15, ArpDecodesRow5e16, ArpDecodesRow5e17, ArpDecodesRow5e18, ArpDecodesRow5e19, ArpDecodesRow5e20, ArpDecodesRow5e21, ArpDecodesRow5e22] : List Ent), EntOK Try.prog e := (allECons (ArpDecodesRow5e0_ok w R hR A0 n0 cp0 w0 hn hm hk) (allECons (ArpDecodesRow5e1_ok w R hR A0 n0 cp0 w0 hn hm hk) (allECons (ArpDecodesRow5e2_ok w R hR A0 n0 cp0 w0 hn hm hk) (allECons (ArpDecodesRow5e3_ok w R hR A0 n0 cp0 w0 hn hm hk) (allECons (ArpDecodesRow5e4_ok w R hR A0 n0 cp0 w0 hn hm hk) (allECons (ArpDecodesRow5e5_ok w R hR A0 n0 cp0 w0 hn hm hk) (allECons (ArpDecodesRow5e6_ok w R hR A0 n0 cp0 w0 hn hm hk) (allECons (ArpDecodesRow5e7_ok w R hR A0 n0 cp0 w0 hn hm hk) (allECons (ArpDecodesRow5e8_ok w R hR A0 n0 cp0 w0 hn hm hk) (allECons (ArpDecodesRow5e9_ok w R hR A0 n0 cp0 w0 hn hm hk) (allECons (ArpDecodesRow5e10_ok w R hR A0 n0 cp0 w0 hn hm hk) (allECons (ArpDecodesRow5e11_ok w R hR A0 n0 cp0 w0 hn hm hk) (allECons (ArpDecodesRow5e12_ok w R hR A0 n0 cp0 w0 hn hm hk) (allECons (ArpDecodesRow5e13_ok w R hR A0 n0 cp0 w0 hn hm hk) (allECons (ArpDecodesRow5e14_ok w R hR A0 n0 cp0 w0 hn hm hk) (allECons (ArpDecodesRow5e15_ok w R hR A0 n0 cp0 w0 hn hm hk) (allECons (ArpDecodesRow5e16_ok w R hR A0 n0 cp0 w0 hn hm hk) (allECons (ArpDecodesRow5e17_ok w R hR A0 n0 cp0 w0 hn hm hk) (allECons (ArpDecodesRow5e18_ok w R hR A0 n0 cp0 w0 hn hm hk) (allECons (ArpDecodesRow5e19_ok w R hR A0 n0 cp0 w0 hn hm hk) (allECons (ArpDecodesRow5e20_ok w R hR A0 n0 cp0 w0 hn hm hk) (allECons (ArpDecodesRow5e21_ok w R hR A0 n0 cp0 w0 hn hm hk) (allECons (ArpDecodesRow5e22_ok w R hR A0 n0 cp0 w0 hn hm hk) allENil)))))))))))))))))))))))
  have hsp : SpOK Try.prog (spTwo (spHelp ⟨14, 16, 19, 5⟩ [0]) (spTwo (spBeq 36 [ArpDecodesRow5e0, ArpDecodesRow5e1, ArpDecodesRow5e2, ArpDecodesRow5e3, ArpDecodesRow5e4, ArpDecodesRow5e5, ArpDecodesRow5e6, ArpDecodesRow5e7, ArpDecodesRow5e8, ArpDecodesRow5e9, ArpDecodesRow5e10, ArpDecodesRow5e11, ArpDecodesRow5e12, ArpDecodesRow5e13, ArpDecodesRow5e14, ArpDecodesRow5e15, ArpDecodesRow5e16, ArpDecodesRow5e17, ArpDecodesRow5e18, ArpDecodesRow5e19, ArpDecodesRow5e20, ArpDecodesRow5e21, ArpDecodesRow5e22]) (spKnown 15))) := (spTwo_ok (spHelp_ok helpC (by
    intro q hq
    simp only [List.mem_cons, List.not_mem_nil, or_false] at hq
    subst hq
    rw [lenOf_eq (n := n0) rfl]; omega)) (spTwo_ok (spBeq_ok beqC hents) (spKnown_ok knownBody known)))
  refine lawR (tab := tabG Try.prog [ArpDecodesRow5e0, ArpDecodesRow5e1, ArpDecodesRow5e2, ArpDecodesRow5e3, ArpDecodesRow5e4, ArpDecodesRow5e5, ArpDecodesRow5e6, ArpDecodesRow5e7, ArpDecodesRow5e8, ArpDecodesRow5e9, ArpDecodesRow5e10, ArpDecodesRow5e11, ArpDecodesRow5e12, ArpDecodesRow5e13, ArpDecodesRow5e14, ArpDecodesRow5e15, ArpDecodesRow5e16, ArpDecodesRow5e17, ArpDecodesRow5e18, ArpDecodesRow5e19, ArpDecodesRow5e20, ArpDecodesRow5e21, ArpDecodesRow5e22]) (sp := (spTwo (spHelp ⟨14, 16, 19, 5⟩ [0]) (spTwo (spBeq 36 [ArpDecodesRow5e0, ArpDecodesRow5e1, ArpDecodesRow5e2, ArpDecodesRow5e3, ArpDecodesRow5e4, ArpDecodesRow5e5, ArpDecodesRow5e6, ArpDecodesRow5e7, ArpDecodesRow5e8, ArpDecodesRow5e9, ArpDecodesRow5e10, ArpDecodesRow5e11, ArpDecodesRow5e12, ArpDecodesRow5e13, ArpDecodesRow5e14, ArpDecodesRow5e15, ArpDecodesRow5e16, ArpDecodesRow5e17, ArpDecodesRow5e18, ArpDecodesRow5e19, ArpDecodesRow5e20, ArpDecodesRow5e21, ArpDecodesRow5e22]) (spKnown 15)))) hsp (tabG_ok hents) (f := 300) (args := [.slice (some ⟨0, 0, some 1⟩) 28 0]) (args' := [.slice (some A0) n0 cp0]) (c0 := 1) (h0 := mem1 (rowAo 1048576 0 28 5)) (β0 := mp1 (rowIm A0 n0)) (w := w) (by kernel_rfl) (sim1 rfl w0.lt (rowIn_ob w0 (by decide) rfl (by omega))) (fun i hi => ?_) ?_
  · match i, hi with
    | i + 1, _ => rfl
  · exact (PW.cons (rowIn_vr (m := 28) w0 rfl (by omega) (by omega) rfl) (PW.nil _))
abbrev ArpDecodesRow6V (R : Nat → Int) (hR : ∀ j, 0 ≤ R j ∧ R j ≤ 255) (n0 : Nat) : Env := envR [.int .i64 (n0 : Int), .int .u32 (R 1048582), .int .u32 (R 1048582), .int .u32 ((R 1048582) * 256), .int .u32 (R 1048583), .int .u32 (((R 1048582) * 256) + (R 1048583)), .int .i64 (((R 1048582) * 256) + (R 1048583))] R hR
def ArpDecodesRow6K (R : Nat → Int) (n0 : Nat) : Prop := (¬ ((n0 : Int) > 4000)) ∧ (¬ ((n0 : Int) < 28)) ∧ (¬ ((R 1048576) = 0)) ∧ True
def ArpDecodesRow6e0 : Ent := .bin .gtr (.chan (some 0)) (.int .i64 4000) (.bool false)
theorem ArpDecodesRow6e0_ok (w : World) (R : Nat → Int) (hR : ∀ j, 0 ≤ R j ∧ R j ≤ 255) (A0 : Addr) (n0 cp0 : Nat) (w0 : RowIn R 1048576 w A0 n0 cp0) (hn : n0 ≤ 70000) (hm : 1 ≤ n0) (hk : ArpDecodesRow6K R n0) : @EntOK (ArpDecodesRow6V R hR n0) Try.prog ArpDecodesRow6e0 := by
  letI : Env := (ArpDecodesRow6V R hR n0)
  obtain ⟨k0, k1, k2, _⟩ := hk; have rb1048576 := hR 1048576; exact entCmp (k := .i64) (a := (n0 : Int)) (b := 4000) rfl rfl (by show some (decide (((n0 : Int) : Int) > 4000)) = some false; rw [decide_eq_false (by first | omega | (simp only [sumVal, oct.sumF, oct.F, oct.ws]; omega))])
def ArpDecodesRow6e1 : Ent := .bin .lss (.chan (some 0)) (.int .i64 28) (.bool false)
theorem ArpDecodesRow6e1_ok (w : World) (R : Nat → Int) (hR : ∀ j, 0 ≤ R j ∧ R j ≤ 255) (A0 : Addr) (n0 cp0 : Nat) (w0 : RowIn R 1048576 w A0 n0 cp0) (hn : n0 ≤ 70000) (hm : 1 ≤ n0) (hk : ArpDecodesRow6K R n0) : @EntOK (ArpDecodesRow6V R hR n0) Try.prog ArpDecodesRow6e1 := by
  letI : Env := (ArpDecodesRow6V R hR n0)
  obtain ⟨k0, k1, k2, _⟩ := hk; have rb1048576 := hR 1048576; exact entCmp (k := .i64) (a := (n0 : Int)) (b := 28) rfl rfl (by show some (decide (((n0 : Int) : Int) < 28)) = some false; rw [decide_eq_false (by first | omega | (simp only [sumVal, oct.sumF, oct.F, oct.ws]; omega))])
def ArpDecodesRow6e2 : Ent := .conv .u32 (.chan (some 1048582)) (.chan (some 1))
theorem ArpDecodesRow6e2_ok (w : World) (R : Nat → Int) (hR : ∀ j, 0 ≤ R j ∧ R j ≤ 255) (A0 : Addr) (n0 cp0 : Nat) (w0 : RowIn R 1048576 w A0 n0 cp0) (hn : n0 ≤ 70000) (hm : 1 ≤ n0) (hk : ArpDecodesRow6K R n0) : @EntOK (ArpDecodesRow6V R hR n0) Try.prog ArpDecodesRow6e2 := by
  letI : Env := (ArpDecodesRow6V R hR n0)
  obtain ⟨k0, k1, k2, _⟩ := hk; have rb1048576 := hR 1048576; have rb1048582 := hR 1048582; exact entConvV (k := .u32) (l := .u8) (a := (R 1048582)) (c := (R 1048582)) rfl rfl (by rw [IntWalk.u32_in _ (by first | omega | (simp only [sumVal, oct.sumF, oct.F, oct.ws]; omega))])
def ArpDecodesRow6e3 : Ent := .bin .or (.int .u32 0) (.chan (some 1)) (.chan (some 2))
theorem ArpDecodesRow6e3_ok (w : World) (R : Nat → Int) (hR : ∀ j, 0 ≤ R j ∧ R j ≤ 255) (A0 : Addr) (n0 cp0 : Nat) (w0 : RowIn R 1048576 w A0 n0 cp0) (hn : n0 ≤ 70000) (hm : 1 ≤ n0) (hk : ArpDecodesRow6K R n0) : @EntOK (ArpDecodesRow6V R hR n0) Try.prog ArpDecodesRow6e3 := by
  letI : Env := (ArpDecodesRow6V R hR n0)
  obtain ⟨k0, k1, k2, _⟩ := hk; have rb1048576 := hR 1048576; have rb1048582 := hR 1048582; exact entOrV (k := .u32) (a := 0) (b := (R 1048582)) (c := (R 1048582)) rfl rfl rfl (by have h := join_u32 0 (R 1048582) 8 256 (by decide) (by omega) (by first | omega | (simp only [sumVal, oct.sumF, oct.F, oct.ws]; omega)) (by first | omega | (simp only [sumVal, oct.sumF, oct.F, oct.ws]; omega)) (by first | omega | (simp only [sumVal, oct.sumF, oct.F, oct.ws]; omega)); simpa using h)
def ArpDecodesRow6e4 : Ent := .bin .shl (.chan (some 2)) (.int .u64 8) (.chan (some 3))
theorem ArpDecodesRow6e4_ok (w : World) (R : Nat → Int) (hR : ∀ j, 0 ≤ R j ∧ R j ≤ 255) (A0 : Addr) (n0 cp0 : Nat) (w0 : RowIn R 1048576 w A0 n0 cp0) (hn : n0 ≤ 70000) (hm : 1 ≤ n0) (hk : ArpDecodesRow6K R n0) : @EntOK (ArpDecodesRow6V R hR n0) Try.prog ArpDecodesRow6e4 := by
  letI : Env := (ArpDecodesRow6V R hR n0)
  obtain ⟨k0, k1, k2, _⟩ := hk; have rb1048576 := hR 1048576; have rb1048582 := hR 1048582; exact entShlV (k := .u32) (l := .u64) (a := (R 1048582)) (c := ((R 1048582) * 256)) (s := 8) rfl rfl rfl (by decide) (by show IntKind.u32.wrap ((R 1048582) * 2 ^ 8) = ((R 1048582) * 256); rw [show ((2 : Int) ^ 8) = 256 from by decide, IntWalk.u32_in _ (by first | omega | (simp only [sumVal, oct.sumF, oct.F, oct.ws]; omega))])
def ArpDecodesRow6e5 : Ent := .conv .u32 (.chan (some 1048583)) (.chan (some 4))
theorem ArpDecodesRow6e5_ok (w : World) (R : Nat → Int) (hR : ∀ j, 0 ≤ R j ∧ R j ≤ 255) (A0 : Addr) (n0 cp0 : Nat) (w0 : RowIn R 1048576 w A0 n0 cp0) (hn : n0 ≤ 70000) (hm : 1 ≤ n0) (hk : ArpDecodesRow6K R n0) : @EntOK (ArpDecodesRow6V R hR n0) Try.prog ArpDecodesRow6e5 := by
  letI : Env := (ArpDecodesRow6V R hR n0)
  obtain ⟨k0, k1, k2, _⟩ := hk; have rb1048576 := hR 1048576; have rb1048583 := hR 1048583; exact entConvV (k := .u32) (l := .u8) (a := (R 1048583)) (c := (R 1048583)) rfl rfl (by rw [IntWalk.u32_in _ (by first | omega | (simp only [sumVal, oct.sumF, oct.F, oct.ws]; omega))])
def ArpDecodesRow6e6 : Ent := .bin .or (.chan (some 3)) (.chan (some 4)) (.chan (some 5))
theorem ArpDecodesRow6e6_ok (w : World) (R : Nat → Int) (hR : ∀ j, 0 ≤ R j ∧ R j ≤ 255) (A0 : Addr) (n0 cp0 : Nat) (w0 : RowIn R 1048576 w A0 n0 cp0) (hn : n0 ≤ 70000) (hm : 1 ≤ n0) (hk : ArpDecodesRow6K R n0) : @EntOK (ArpDecodesRow6V R hR n0) Try.prog ArpDecodesRow6e6 := by
  letI : Env := (ArpDecodesRow6V R hR n0)
  obtain ⟨k0, k1, k2, _⟩ := hk; have rb1048576 := hR 1048576; have rb1048582 := hR 1048582; have rb1048583 := hR 1048583; exact entOrV (k := .u32) (a := ((R 1048582) * 256)) (b := (R 1048583)) (c := (((R 1048582) * 256) + (R 1048583))) rfl rfl rfl (by exact join_u32 (R 1048582) (R 1048583) 8 256 (by decide) (by first | omega | (simp only [sumVal, oct.sumF, oct.F, oct.ws]; omega)) (by first | omega | (simp only [sumVal, oct.sumF, oct.F, oct.ws]; omega)) (by first | omega | (simp only [sumVal, oct.sumF, oct.F, oct.ws]; omega)) (by first | omega | (simp only [sumVal, oct.sumF, oct.F, oct.ws]; omega)))
def ArpDecodesRow6e7 : Ent := .conv .i64 (.chan (some 5)) (.chan (some 6))
theorem ArpDecodesRow6e7_ok (w : World) (R : Nat → Int) (hR : ∀ j, 0 ≤ R j ∧ R j ≤ 255) (A0 : Addr) (n0 cp0 : Nat) (w0 : RowIn R 1048576 w A0 n0 cp0) (hn : n0 ≤ 70000) (hm : 1 ≤ n0) (hk : ArpDecodesRow6K R n0) : @EntOK (ArpDecodesRow6V R hR n0) Try.prog ArpDecodesRow6e7 := by
  letI : Env := (ArpDecodesRow6V R hR n0)
  obtain ⟨k0, k1, k2, _⟩ := hk; have rb1048576 := hR 1048576; have rb1048582 := hR 1048582; have rb1048583 := hR 1048583; exact entConvV (k := .i64) (l := .u32) (a := (((R 1048582) * 256) + (R 1048583))) (c := (((R 1048582) * 256) + (R 1048583))) rfl rfl (by rw [IntWalk.i64_in _ (by first | omega | (simp only [sumVal, oct.sumF, oct.F, oct.ws]; omega))])
def ArpDecodesRow6e8 : Ent := .bin .eql (.chan (some 1048576)) (.int .u8 0) (.bool false)
theorem ArpDecodesRow6e8_ok (w : World) (R : Nat → Int) (hR : ∀ j, 0 ≤ R j ∧ R j ≤ 255) (A0 : Addr) (n0 cp0 : Nat) (w0 : RowIn R 1048576 w A0 n0 cp0) (hn : n0 ≤ 70000) (hm : 1 ≤ n0) (hk : ArpDecodesRow6K R n0) : @EntOK (ArpDecodesRow6V R hR n0) Try.prog ArpDecodesRow6e8 := by
  letI : Env := (ArpDecodesRow6V R hR n0)
  obtain ⟨k0, k1, k2, _⟩ := hk; have rb1048576 := hR 1048576; exact entCmp (k := .u8) (a := (R 1048576)) (b := 0) rfl rfl (by show some (((R 1048576) : Int) == 0) = some false; rw [beq_eq_false_iff_ne.2 (by first | omega | (simp only [sumVal, oct.sumF, oct.F, oct.ws]; omega))])
def ArpDecodesRow6e9 : Ent := .bin .neq (.chan (some 1048576)) (.int .u8 0) (.bool true)
theorem ArpDecodesRow6e9_ok (w : World) (R : Nat → Int) (hR : ∀ j, 0 ≤ R j ∧ R j ≤ 255) (A0 : Addr) (n0 cp0 : Nat) (w0 : RowIn R 1048576 w A0 n0 cp0) (hn : n0 ≤ 70000) (hm : 1 ≤ n0) (hk : ArpDecodesRow6K R n0) : @EntOK (ArpDecodesRow6V R hR n0) Try.prog ArpDecodesRow6e9 := by
  letI : Env := (ArpDecodesRow6V R hR n0)
  obtain ⟨k0, k1, k2, _⟩ := hk; have rb1048576 := hR 1048576; exact entCmp (k := .u8) (a := (R 1048576)) (b := 0) rfl rfl (by show some (((R 1048576) : Int) != 0) = some true; rw [bne_iff_ne.2 (by first | omega | (simp only [sumVal, oct.sumF, oct.F, oct.ws]; omega))])
set_option maxHeartbeats 4000000 in
theorem ArpDecodesRow6 (w : World) (R : Nat → Int) (hR : ∀ j, 0 ≤ R j ∧ R j ≤ 255) (A0 : Addr) (n0 cp0 : Nat) (w0 : RowIn R 1048576 w A0 n0 cp0) (hn : n0 ≤ 70000) (hm : 1 ≤ n0) (k0 : ¬ ((n0 : Int) > 4000)) (k1 : ¬ ((n0 : Int) < 28)) (k2 : ¬ ((R 1048576) = 0)) : Calls Try.prog 4 #[.slice (some A0) n0 cp0] w (fun e w' => e = .returned (.bool true) ∧ Only [] w w') := by
  letI : Env := (ArpDecodesRow6V R hR n0)
  have hk : ArpDecodesRow6K R n0 := ⟨k0, k1, k2, trivial⟩
  have hents : ∀ e ∈ ([ArpDecodesRow6e0, ArpDecodesRow6e1, ArpDecodesRow6e2, ArpDecodesRow6e3, ArpDecodesRow6e4, ArpDecodesRow6e5, ArpDecodesRow6e6, ArpDecodesRow6e7, ArpDecodesRow6e8, ArpDecodesRow6e9] : List Ent), EntOK Try.prog e := (allECons (ArpDecodesRow6e0_ok w R hR A0 n0 cp0 w0 hn hm hk) (allECons (ArpDecodesRow6e1_ok w R hR A0 n0 cp0 w0 hn hm hk) (allECons (ArpDecodesRow6e2_ok w R hR A0 n0 cp0 w0 hn hm hk) (allECons (ArpDecodesRow6e3_ok w R hR A0 n0 cp0 w0 hn hm hk) (allECons (ArpDecodesRow6e4_ok w R hR A0 n0 cp0 w0 hn hm hk) (allECons (ArpDecodesRow6e5_ok w R hR A0 n0 cp0 w0 hn hm hk) (allECons (ArpDecodesRow6e6_ok w R hR A0 n0 cp0 w0 hn hm hk) (allECons (ArpDecodesRow6e7_ok w R hR A0 n0 cp0 w0 hn hm hk) (allECons (ArpDecodesRow6e8_ok w R hR A0 n0 cp0 w0 hn hm hk) (allECons (ArpDecodesRow6e9_ok w R hR A0 n0 cp0 w0 hn hm hk) allENil))))))))))
  have hsp : SpOK Try.prog (spTwo (spHelp ⟨14, 16, 19, 5⟩ [0]) (spTwo (spBeq 36 [ArpDecodesRow6e0, ArpDecodesRow6e1, ArpDecodesRow6e2, ArpDecodesRow6e3, ArpDecodesRow6e4, ArpDecodesRow6e5, ArpDecodesRow6e6, ArpDecodesRow6e7, ArpDecodesRow6e8, ArpDecodesRow6e9]) (spKnown 15))) := (spTwo_ok (spHelp_ok helpC (by
    intro q hq
    simp only [List.mem_cons, List.not_mem_nil, or_false] at hq
    subst hq
    rw [lenOf_eq (n := n0) rfl]; omega)) (spTwo_ok (spBeq_ok beqC hents) (spKnown_ok knownBody known)))
  refine lawR (tab := tabG Try.prog [ArpDecodesRow6e0, ArpDecodesRow6e1, ArpDecodesRow6e2, ArpDecodesRow6e3, ArpDecodesRow6e4, ArpDecodesRow6e5, ArpDecodesRow6e6, ArpDecodesRow6e7, ArpDecodesRow6e8, ArpDecodesRow6e9]) (sp := (spTwo (spHelp ⟨14, 16, 19, 5⟩ [0]) (spTwo (spBeq 36 [ArpDecodesRow6e0, ArpDecodesRow6e1, ArpDecodesRow6e2, ArpDecodesRow6e3, ArpDecodesRow6e4, ArpDecodesRow6e5, ArpDecodesRow6e6, ArpDecodesRow6e7, ArpDecodesRow6e8, ArpDecodesRow6e9]) (spKnown 15)))) hsp (tabG_ok hents) (f := 300) (args := [.slice (some ⟨0, 0, some 1⟩) 28 0]) (args' := [.slice (some A0) n0 cp0]) (c0 := 1) (h0 := mem1 (rowAo 1048576 0 28 5)) (β0 := mp1 (rowIm A0 n0)) (w := w) (by kernel_rfl) (sim1 rfl w0.lt (rowIn_ob w0 (by decide) rfl (by omega))) (fun i hi => ?_) ?_
  · match i, hi with
    | i + 1, _ => rfl
  · exact (PW.cons (rowIn_vr (m := 28) w0 rfl (by omega) (by omega) rfl) (PW.nil _))
abbrev ArpDecodesRow7V (R : Nat → Int) (hR : ∀ j, 0 ≤ R j ∧ R j ≤ 255) (n0 : Nat) : Env := envR [.int .i64 (n0 : Int), .int .u32 (R 1048582), .int .u32 (R 1048582), .int .u32 ((R 1048582) * 256), .int .u32 (R 1048583), .int .u32 (((R 1048582) * 256) + (R 1048583)), .int .i64 (((R 1048582) * 256) + (R 1048583))] R hR
def ArpDecodesRow7K (R : Nat → Int) (n0 : Nat) : Prop := (¬ ((n0 : Int) > 4000)) ∧ (¬ ((n0 : Int) < 28)) ∧ ((R 1048576) = 0) ∧ (¬ ((R 1048577) = 1)) ∧ True
def ArpDecodesRow7e0 : Ent := .bin .gtr (.chan (some 0)) (.int .i64 4000) (.bool false)
theorem ArpDecodesRow7e0_ok (w : World) (R : Nat → Int) (hR : ∀ j, 0 ≤ R j ∧ R j ≤ 255) (A0 : Addr) (n0 cp0 : Nat) (w0 : RowIn R 1048576 w A0 n0 cp0) (hn : n0 ≤ 70000) (hm : 1 ≤ n0) (hk : ArpDecodesRow7K R n0) : @EntOK (ArpDecodesRow7V R hR n0) Try.prog ArpDecodesRow7e0 := by
  letI : Env := (ArpDecodesRow7V R hR n0)
  obtain ⟨k0, k1, k2, k3, _⟩ := hk; have rb1048576 := hR 1048576; have rb1048577 := hR 1048577; exact entCmp (k := .i64) (a := (n0 : Int)) (b := 4000) rfl rfl (by show some (decide (((n0 : Int) : Int) > 4000)) = some false; rw [decide_eq_false (by first | omega | (simp only [sumVal, oct.sumF, oct.F, oct.ws]; omega))])
def ArpDecodesRow7e1 : Ent := .bin .lss (.chan (some 0)) (.int .i64 28) (.bool false)
theorem ArpDecodesRow7e1_ok (w : World) (R : Nat → Int) (hR : ∀ j, 0 ≤ R j ∧ R j ≤ 255) (A0 : Addr) (n0 cp0 : Nat) (w0 : RowIn R 1048576 w A0 n0 cp0) (hn : n0 ≤ 70000) (hm : 1 ≤ n0) (hk : ArpDecodesRow7K R n0) : @EntOK (ArpDecodesRow7V R hR n0) Try.prog ArpDecodesRow7e1 := by
  letI : Env := (ArpDecodesRow7V R hR n0)
  obtain ⟨k0, k1, k2, k3, _⟩ := hk; have rb1048576 := hR 1048576; have rb1048577 := hR 1048577; exact entCmp (k := .i64) (a := (n0 : Int)) (b := 28) rfl rfl (by show some (decide (((n0 : Int) : Int) < 28)) = some false; rw [decide_eq_false (by first | omega | (simp only [sumVal, oct.sumF, oct.F, oct.ws]; omega))])
def ArpDecodesRow7e2 : Ent := .conv .u32 (.chan (some 1048582)) (.chan (some 1))
theorem ArpDecodesRow7e2_ok (w : World) (R : Nat → Int) (hR : ∀ j, 0 ≤ R j ∧ R j ≤ 255) (A0 : Addr) (n0 cp0 : Nat) (w0 : RowIn R 1048576 w A0 n0 cp0) (hn : n0 ≤ 70000) (hm : 1 ≤ n0) (hk : ArpDecodesRow7K R n0) : @EntOK (ArpDecodesRow7V R hR n0) Try.prog ArpDecodesRow7e2 := by
  letI : Env := (ArpDecodesRow7V R hR n0)
  obtain ⟨k0, k1, k2, k3, _⟩ := hk; have rb1048576 := hR 1048576; have rb1048577 := hR 1048577; have rb1048582 := hR 1048582; exact entConvV (k := .u32) (l := .u8) (a := (R 1048582)) (c := (R 1048582)) rfl rfl (by rw [IntWalk.u32_in _ (by first | omega | (simp only [sumVal, oct.sumF, oct.F, oct.ws]; omega))])
def ArpDecodesRow7e3 : Ent := .bin .or (.int .u32 0) (.chan (some 1)) (.chan (some 2))
theorem ArpDecodesRow7e3_ok (w : World) (R : Nat → Int) (hR : ∀ j, 0 ≤ R j ∧ R j ≤ 255) (A0 : Addr) (n0 cp0 : Nat) (w0 : RowIn R 1048576 w A0 n0 cp0) (hn : n0 ≤ 70000) (hm : 1 ≤ n0) (hk : ArpDecodesRow7K R n0) : @EntOK (ArpDecodesRow7V R hR n0) Try.prog ArpDecodesRow7e3 := by
  letI : Env := (ArpDecodesRow7V R hR n0)
  obtain ⟨k0, k1, k2, k3, _⟩ := hk; have rb1048576 := hR 1048576; have rb1048577 := hR 1048577; have rb1048582 := hR 1048582; exact entOrV (k := .u32) (a := 0) (b := (R 1048582)) (c := (R 1048582)) rfl rfl rfl (by have h := join_u32 0 (R 1048582) 8 256 (by decide) (by omega) (by first | omega | (simp only [sumVal, oct.sumF, oct.F, oct.ws]; omega)) (by first | omega | (simp only [sumVal, oct.sumF, oct.F, oct.ws]; omega)) (by first | omega | (simp only [sumVal, oct.sumF, oct.F, oct.ws]; omega)); simpa using h)
def ArpDecodesRow7e4 : Ent := .bin .shl (.chan (some 2)) (.int .u64 8) (.chan (some 3))
theorem ArpDecodesRow7e4_ok (w : World) (R : Nat → Int) (hR : ∀ j, 0 ≤ R j ∧ R j ≤ 255) (A0 : Addr) (n0 cp0 : Nat) (w0 : RowIn R 1048576 w A0 n0 cp0) (hn : n0 ≤ 70000) (hm : 1 ≤ n0) (hk : ArpDecodesRow7K R n0) : @EntOK (ArpDecodesRow7V R hR n0) Try.prog ArpDecodesRow7e4 := by
  letI : Env := (ArpDecodesRow7V R hR n0)
  obtain ⟨k0, k1, k2, k3, _⟩ := hk; have rb1048576 := hR 1048576; have rb1048577 := hR 1048577; have rb1048582 := hR 1048582; exact entShlV (k := .u32) (l := .u64) (a := (R 1048582)) (c := ((R 1048582) * 256)) (s := 8) rfl rfl rfl (by decide) (by show IntKind.u32.wrap ((R 1048582) * 2 ^ 8) = ((R 1048582) * 256); rw [show ((2 : Int) ^ 8) = 256 from by decide, IntWalk.u32_in _ (by first | omega | (simp only [sumVal, oct.sumF, oct.F, oct.ws]; omega))])
def ArpDecodesRow7e5 : Ent := .conv .u32 (.chan (some 1048583)) (.chan (some 4))
theorem ArpDecodesRow7e5_ok (w : World) (R : Nat → Int) (hR : ∀ j, 0 ≤ R j ∧ R j ≤ 255) (A0 : Addr) (n0 cp0 : Nat) (w0 : RowIn R 1048576 w A0 n0 cp0) (hn : n0 ≤ 70000) (hm : 1 ≤ n0) (hk : ArpDecodesRow7K R n0) : @EntOK (ArpDecodesRow7V R hR n0) Try.prog ArpDecodesRow7e5 := by
  letI : Env := (ArpDecodesRow7V R hR n0)
  obtain ⟨k0, k1, k2, k3, _⟩ := hk; have rb1048576 := hR 1048576; have rb1048577 := hR 1048577; have rb1048583 := hR 1048583; exact entConvV (k := .u32) (l := .u8) (a := (R 1048583)) (c := (R 1048583)) rfl rfl (by rw [IntWalk.u32_in _ (by first | omega | (simp only [sumVal, oct.sumF, oct.F, oct.ws]; omega))])
def ArpDecodesRow7e6 : Ent := .bin .or (.chan (some 3)) (.chan (some 4)) (.chan (some 5))
theorem ArpDecodesRow7e6_ok (w : World) (R : Nat → Int) (hR : ∀ j, 0 ≤ R j ∧ R j ≤ 255) (A0 : Addr) (n0 cp0 : Nat) (w0 : RowIn R 1048576 w A0 n0 cp0) (hn : n0 ≤ 70000) (hm : 1 ≤ n0) (hk : ArpDecodesRow7K R n0) : @EntOK (ArpDecodesRow7V R hR n0) Try.prog ArpDecodesRow7e6 := by
  letI : Env := (ArpDecodesRow7V R hR n0)
  obtain ⟨k0, k1, k2, k3, _⟩ := hk; have rb1048576 := hR 1048576; have rb1048577 := hR 1048577; have rb1048582 := hR 1048582; have rb1048583 := hR 1048583; exact entOrV (k := .u32) (a := ((R 1048582) * 256)) (b := (R 1048583)) (c := (((R 1048582) * 256) + (R 1048583))) rfl rfl rfl (by exact join_u32 (R 1048582) (R 1048583) 8 256 (by decide) (by first | omega | (simp only [sumVal, oct.sumF, oct.F, oct.ws]; omega)) (by first | omega | (simp only [sumVal, oct.sumF, oct.F, oct.ws]; omega)) (by first | omega | (simp only [sumVal, oct.sumF, oct.F, oct.ws]; omega)) (by first | omega | (simp only [sumVal, oct.sumF, oct.F, oct.ws]; omega)))
def ArpDecodesRow7e7 : Ent := .conv .i64 (.chan (some 5)) (.chan (some 6))
theorem ArpDecodesRow7e7_ok (w : World) (R : Nat → Int) (hR : ∀ j, 0 ≤ R j ∧ R j ≤ 255) (A0 : Addr) (n0 cp0 : Nat) (w0 : RowIn R 1048576 w A0 n0 cp0) (hn : n0 ≤ 70000) (hm : 1 ≤ n0) (hk : ArpDecodesRow7K R n0) : @EntOK (ArpDecodesRow7V R hR n0) Try.prog ArpDecodesRow7e7 := by
  letI : Env := (ArpDecodesRow7V R hR n0)
  obtain ⟨k0, k1, k2, k3, _⟩ := hk; have rb1048576 := hR 1048576; have rb1048577 := hR 1048577; have rb1048582 := hR 1048582; have rb1048583 := hR 1048583; exact entConvV (k := .i64) (l := .u32) (a := (((R 1048582) * 256) + (R 1048583))) (c := (((R 1048582) * 256) + (R 1048583))) rfl rfl (by rw [IntWalk.i64_in _ (by first | omega | (simp only [sumVal, oct.sumF, oct.F, oct.ws]; omega))])
def ArpDecodesRow7e8 : Ent := .bin .eql (.chan (some 1048576)) (.int .u8 0) (.bool true)
theorem ArpDecodesRow7e8_ok (w : World) (R : Nat → Int) (hR : ∀ j, 0 ≤ R j ∧ R j ≤ 255) (A0 : Addr) (n0 cp0 : Nat) (w0 : RowIn R 1048576 w A0 n0 cp0) (hn : n0 ≤ 70000) (hm : 1 ≤ n0) (hk : ArpDecodesRow7K R n0) : @EntOK (ArpDecodesRow7V R hR n0) Try.prog ArpDecodesRow7e8 := by
  letI : Env := (ArpDecodesRow7V R hR n0)
  obtain ⟨k0, k1, k2, k3, _⟩ := hk; have rb1048576 := hR 1048576; have rb1048577 := hR 1048577; exact entCmp (k := .u8) (a := (R 1048576)) (b := 0) rfl rfl (by show some (((R 1048576) : Int) == 0) = some true; rw [beq_iff_eq.2 (by first | omega | (simp only [sumVal, oct.sumF, oct.F, oct.ws]; omega))])
def ArpDecodesRow7e9 : Ent := .bin .eql (.chan (some 1048577)) (.int .u8 1) (.bool false)
theorem ArpDecodesRow7e9_ok (w : World) (R : Nat → Int) (hR : ∀ j, 0 ≤ R j ∧ R j ≤ 255) (A0 : Addr) (n0 cp0 : Nat) (w0 : RowIn R 1048576 w A0 n0 cp0) (hn : n0 ≤ 70000) (hm : 1 ≤ n0) (hk : ArpDecodesRow7K R n0) : @EntOK (ArpDecodesRow7V R hR n0) Try.prog ArpDecodesRow7e9 := by
  letI : Env := (ArpDecodesRow7V R hR n0)
  obtain ⟨k0, k1, k2, k3, _⟩ := hk; have rb1048576 := hR 1048576; have rb1048577 := hR 1048577; exact entCmp (k := .u8) (a := (R 1048577)) (b := 1) rfl rfl (by show some (((R 1048577) : Int) == 1) = some false; rw [beq_eq_false_iff_ne.2 (by first | omega | (simp only [sumVal, oct.sumF, oct.F, oct.ws]; omega))])
def ArpDecodesRow7e10 : Ent := .bin .neq (.chan (some 1048576)) (.int .u8 0) (.bool false)
theorem ArpDecodesRow7e10_ok (w : World) (R : Nat → Int) (hR : ∀ j, 0 ≤ R j ∧ R j ≤ 255) (A0 : Addr) (n0 cp0 : Nat) (w0 : RowIn R 1048576 w A0 n0 cp0) (hn : n0 ≤ 70000) (hm : 1 ≤ n0) (hk : ArpDecodesRow7K R n0) : @EntOK (ArpDecodesRow7V R hR n0) Try.prog ArpDecodesRow7e10 := by
  letI : Env := (ArpDecodesRow7V R hR n0)
  obtain ⟨k0, k1, k2, k3, _⟩ := hk; have rb1048576 := hR 1048576; have rb1048577 := hR 1048577; exact entCmp (k := .u8) (a := (R 1048576)) (b := 0) rfl rfl (by show some (((R 1048576) : Int) != 0) = some false; rw [bne_eq_false_iff_eq.2 (by first | omega | (simp only [sumVal, oct.sumF, oct.F, oct.ws]; omega))])
def ArpDecodesRow7e11 : Ent := .bin .neq (.chan (some 1048577)) (.int .u8 1) (.bool true)
theorem ArpDecodesRow7e11_ok (w : World) (R : Nat → Int) (hR : ∀ j, 0 ≤ R j ∧ R j ≤ 255) (A0 : Addr) (n0 cp0 : Nat) (w0 : RowIn R 1048576 w A0 n0 cp0) (hn : n0 ≤ 70000) (hm : 1 ≤ n0) (hk : ArpDecodesRow7K R n0) : @EntOK (ArpDecodesRow7V R hR n0) Try.prog ArpDecodesRow7e11 := by
  letI : Env := (ArpDecodesRow7V R hR n0)
  obtain ⟨k0, k1, k2, k3, _⟩ := hk; have rb1048576 := hR 1048576; have rb1048577 := hR 1048577; exact entCmp (k := .u8) (a := (R 1048577)) (b := 1) rfl rfl (by show some (((R 1048577) : Int) != 1) = some true; rw [bne_iff_ne.2 (by first | omega | (simp only [sumVal, oct.sumF, oct.F, oct.ws]; omega))])
set_option maxHeartbeats 4000000 in
theorem ArpDecodesRow7 (w : World) (R : Nat → Int) (hR : ∀ j, 0 ≤ R j ∧ R j ≤ 255) (A0 : Addr) (n0 cp0 : Nat) (w0 : RowIn R 1048576 w A0 n0 cp0) (hn : n0 ≤ 70000) (hm : 1 ≤ n0) (k0 : ¬ ((n0 : Int) > 4000)) (k1 : ¬ ((n0 : Int) < 28)) (k2 : (R 1048576) = 0) (k3 : ¬ ((R 1048577) = 1)) : Calls Try.prog 4 #[.slice (some A0) n0 cp0] w (fun e w' => e = .returned (.bool true) ∧ Only [] w w') := by
  letI : Env := (ArpDecodesRow7V R hR n0)
  have hk : ArpDecodesRow7K R n0 := ⟨k0, k1, k2, k3, trivial⟩
  have hents : ∀ e ∈ ([ArpDecodesRow7e0, ArpDecodesRow7e1, ArpDecodesRow7e2, ArpDecodesRow7e3, ArpDecodesRow7e4, ArpDecodesRow7e5, ArpDecodesRow7e6, ArpDecodesRow7e7, ArpDecodesRow7e8, ArpDecodesRow7e9, ArpDecodesRow7e10, ArpDecodesRow7e11] : List Ent), EntOK Try.prog e := (allECons (ArpDecodesRow7e0_ok w R hR A0 n0 cp0 w0 hn hm hk) (allECons (ArpDecodesRow7e1_ok w R hR A0 n0 cp0 w0 hn hm hk) (allECons (ArpDecodesRow7e2_ok w R hR A0 n0 cp0 w0 hn hm hk) (allECons (ArpDecodesRow7e3_ok w R hR A0 n0 cp0 w0 hn hm hk) (allECons (ArpDecodesRow7e4_ok w R hR A0 n0 cp0 w0 hn hm hk) (allECons (ArpDecodesRow7e5_ok w R hR A0 n0 cp0 w0 hn hm hk) (allECons (ArpDecodesRow7e6_ok w R hR A0 n0 cp0 w0 hn hm hk) (allECons (ArpDecodesRow7e7_ok w R hR A0 n0 cp0 w0 hn hm hk) (allECons (ArpDecodesRow7e8_ok w R hR A0 n0 cp0 w0 hn hm hk) (allECons (ArpDecodesRow7e9_ok w R hR A0 n0 cp0 w0 hn hm hk) (allECons (ArpDecodesRow7e10_ok w R hR A0 n0 cp0 w0 hn hm hk) (allECons (ArpDecodesRow7e11_ok w R hR A0 n0 cp0 w0 hn hm hk) allENil))))))))))))
  have hsp : SpOK Try.prog (spTwo (spHelp ⟨14, 16, 19, 5⟩ [0]) (spTwo (spBeq 36 [ArpDecodesRow7e0, ArpDecodesRow7e1, ArpDecodesRow7e2, ArpDecodesRow7e3, ArpDecodesRow7e4, ArpDecodesRow7e5, ArpDecodesRow7e6, ArpDecodesRow7e7, ArpDecodesRow7e8, ArpDecodesRow7e9, ArpDecodesRow7e10, ArpDecodesRow7e11]) (spKnown 15))) := (spTwo_ok (spHelp_ok helpC (by
    intro q hq
    simp only [List.mem_cons, List.not_mem_nil, or_false] at hq
    subst hq
    rw [lenOf_eq (n := n0) rfl]; omega)) (spTwo_ok (spBeq_ok beqC hents) (spKnown_ok knownBody known)))
  refine lawR (tab := tabG Try.prog [ArpDecodesRow7e0, ArpDecodesRow7e1, ArpDecodesRow7e2, ArpDecodesRow7e3, ArpDecodesRow7e4, ArpDecodesRow7e5, ArpDecodesRow7e6, ArpDecodesRow7e7, ArpDecodesRow7e8, ArpDecodesRow7e9, ArpDecodesRow7e10, ArpDecodesRow7e11]) (sp := (spTwo (spHelp ⟨14, 16, 19, 5⟩ [0]) (spTwo (spBeq 36 [ArpDecodesRow7e0, ArpDecodesRow7e1, ArpDecodesRow7e2, ArpDecodesRow7e3, ArpDecodesRow7e4, ArpDecodesRow7e5, ArpDecodesRow7e6, ArpDecodesRow7e7, ArpDecodesRow7e8, ArpDecodesRow7e9, ArpDecodesRow7e10, ArpDecodesRow7e11]) (spKnown 15)))) hsp (tabG_ok hents) (f := 300) (args := [.slice (some ⟨0, 0, some 1⟩) 28 0]) (args' := [.slice (some A0) n0 cp0]) (c0 := 1) (h0 := mem1 (rowAo 1048576 0 28 5)) (β0 := mp1 (rowIm A0 n0)) (w := w) (by kernel_rfl) (sim1 rfl w0.lt (rowIn_ob w0 (by decide) rfl (by omega))) (fun i hi => ?_) ?_
  · match i, hi with
    | i + 1, _ => rfl
  · exact (PW.cons (rowIn_vr (m := 28) w0 rfl (by omega) (by omega) rfl) (PW.nil _))
abbrev ArpDecodesRow8V (R : Nat → Int) (hR : ∀ j, 0 ≤ R j ∧ R j ≤ 255) (n0 : Nat) : Env := envR [.int .i64 (n0 : Int), .int .u32 (R 1048582), .int .u32 (R 1048582), .int .u32 ((R 1048582) * 256), .int .u32 (R 1048583), .int .u32 (((R 1048582) * 256) + (R 1048583)), .int .i64 (((R 1048582) * 256) + (R 1048583))] R hR
def ArpDecodesRow8K (R : Nat → Int) (n0 : Nat) : Prop := (¬ ((n0 : Int) > 4000)) ∧ (¬ ((n0 : Int) < 28)) ∧ ((R 1048576) = 0) ∧ ((R 1048577) = 1) ∧ (¬ ((R 1048578) = 8)) ∧ True
def ArpDecodesRow8e0 : Ent := .bin .gtr (.chan (some 0)) (.int .i64 4000) (.bool false)
theorem ArpDecodesRow8e0_ok (w : World) (R : Nat → Int) (hR : ∀ j, 0 ≤ R j ∧ R j ≤ 255) (A0 : Addr) (n0 cp0 : Nat) (w0 : RowIn R 1048576 w A0 n0 cp0) (hn : n0 ≤ 70000) (hm : 1 ≤ n0) (hk : ArpDecodesRow8K R n0) : @EntOK (ArpDecodesRow8V R hR n0) Try.prog ArpDecodesRow8e0 := by
  letI : Env := (ArpDecodesRow8V R hR n0)
  obtain ⟨k0, k1, k2, k3, k4, _⟩ := hk; have rb1048576 := hR 1048576; have rb1048577 := hR 1048577; have rb1048578 := hR 1048578; exact entCmp (k := .i64) (a := (n0 : Int)) (b := 4000) rfl rfl (by show some (decide (((n0 : Int) : Int) > 4000)) = some false; rw [decide_eq_false (by first | omega | (simp only [sumVal, oct.sumF, oct.F, oct.ws]; omega))])
def ArpDecodesRow8e1 : Ent := .bin .lss (.chan (some 0)) (.int .i64 28) (.bool false)
theorem ArpDecodesRow8e1_ok (w : World) (R : Nat → Int) (hR : ∀ j, 0 ≤ R j ∧ R j ≤ 255) (A0 : Addr) (n0 cp0 : Nat) (w0 : RowIn R 1048576 w A0 n0 cp0) (hn : n0 ≤ 70000) (hm : 1 ≤ n0) (hk : ArpDecodesRow8K R n0) : @EntOK (ArpDecodesRow8V R hR n0) Try.prog ArpDecodesRow8e1 := by
  letI : Env := (ArpDecodesRow8V R hR n0)
  obtain ⟨k0, k1, k2, k3, k4, _⟩ := hk; have rb1048576 := hR 1048576; have rb1048577 := hR 1048577; have rb1048578 := hR 1048578; exact entCmp (k := .i64) (a := (n0 : Int)) (b := 28) rfl rfl (by show some (decide (((n0 : Int) : Int) < 28)) = some false; rw [decide_eq_false (by first | omega | (simp only [sumVal, oct.sumF, oct.F, oct.ws]; omega))])
def ArpDecodesRow8e2 : Ent := .conv .u32 (.chan (some 1048582)) (.chan (some 1))
theorem ArpDecodesRow8e2_ok (w : World) (R : Nat → Int) (hR : ∀ j, 0 ≤ R j ∧ R j ≤ 255) (A0 : Addr) (n0 cp0 : Nat) (w0 : RowIn R 1048576 w A0 n0 cp0) (hn : n0 ≤ 70000) (hm : 1 ≤ n0) (hk : ArpDecodesRow8K R n0) : @EntOK (ArpDecodesRow8V R hR n0) Try.prog ArpDecodesRow8e2 := by
  letI : Env := (ArpDecodesRow8V R hR n0)
  obtain ⟨k0, k1, k2, k3, k4, _⟩ := hk; have rb1048576 := hR 1048576; have rb1048577 := hR 1048577; have rb1048578 := hR 1048578; have rb1048582 := hR 1048582; exact entConvV (k := .u32) (l := .u8) (a := (R 1048582)) (c := (R 1048582)) rfl rfl (by rw [IntWalk.u32_in _ (by first | omega | (simp only [sumVal, oct.sumF, oct.F, oct.ws]; omega))])
def ArpDecodesRow8e3 : Ent := .bin .or (.int .u32 0) (.chan (some 1)) (.chan (some 2))
theorem ArpDecodesRow8e3_ok (w : World) (R : Nat → Int) (hR : ∀ j, 0 ≤ R j ∧ R j ≤ 255) (A0 : Addr) (n0 cp0 : Nat) (w0 : RowIn R 1048576 w A0 n0 cp0) (hn : n0 ≤ 70000) (hm : 1 ≤ n0) (hk : ArpDecodesRow8K R n0) : @EntOK (ArpDecodesRow8V R hR n0) Try.prog ArpDecodesRow8e3 := by
  letI : Env := (ArpDecodesRow8V R hR n0)
  obtain ⟨k0, k1, k2, k3, k4, _⟩ := hk; have rb1048576 := hR 1048576; have rb1048577 := hR 1048577; have rb1048578 := hR 1048578; have rb1048582 := hR 1048582; exact entOrV (k := .u32) (a := 0) (b := (R 1048582)) (c := (R 1048582)) rfl rfl rfl (by have h := join_u32 0 (R 1048582) 8 256 (by decide) (by omega) (by first | omega | (simp only [sumVal, oct.sumF, oct.F, oct.ws]; omega)) (by first | omega | (simp only [sumVal, oct.sumF, oct.F, oct.ws]; omega)) (by first | omega | (simp only [sumVal, oct.sumF, oct.F, oct.ws]; omega)); simpa using h)
def ArpDecodesRow8e4 : Ent := .bin .shl (.chan (some 2)) (.int .u64 8) (.chan (some 3))
theorem ArpDecodesRow8e4_ok (w : World) (R : Nat → Int) (hR : ∀ j, 0 ≤ R j ∧ R j ≤ 255) (A0 : Addr) (n0 cp0 : Nat) (w0 : RowIn R 1048576 w A0 n0 cp0) (hn : n0 ≤ 70000) (hm : 1 ≤ n0) (hk : ArpDecodesRow8K R n0) : @EntOK (ArpDecodesRow8V R hR n0) Try.prog ArpDecodesRow8e4 := by
  letI : Env := (ArpDecodesRow8V R hR n0)
  obtain ⟨k0, k1, k2, k3, k4, _⟩ := hk; have rb1048576 := hR 1048576; have rb1048577 := hR 1048577; have rb1048578 := hR 1048578; have rb1048582 := hR 1048582; exact entShlV (k := .u32) (l := .u64) (a := (R 1048582)) (c := ((R 1048582) * 256)) (s := 8) rfl rfl rfl (by decide) (by show IntKind.u32.wrap ((R 1048582) * 2 ^ 8) = ((R 1048582) * 256); rw [show ((2 : Int) ^ 8) = 256 from by decide, IntWalk.u32_in _ (by first | omega | (simp only [sumVal, oct.sumF, oct.F, oct.ws]; omega))])
def ArpDecodesRow8e5 : Ent := .conv .u32 (.chan (some 1048583)) (.chan (some 4))
theorem ArpDecodesRow8e5_ok (w : World) (R : Nat → Int) (hR : ∀ j, 0 ≤ R j ∧ R j ≤ 255) (A0 : Addr) (n0 cp0 : Nat) (w0 : RowIn R 1048576 w A0 n0 cp0) (hn : n0 ≤ 70000) (hm : 1 ≤ n0) (hk : ArpDecodesRow8K R n0) : @EntOK (ArpDecodesRow8V R hR n0) Try.prog ArpDecodesRow8e5 := by
  letI : Env := (ArpDecodesRow8V R hR n0)
  obtain ⟨k0, k1, k2, k3, k4, _⟩ := hk; have rb1048576 := hR 1048576; have rb1048577 := hR 1048577; have rb1048578 := hR 1048578; have rb1048583 := hR 1048583; exact entConvV (k := .u32) (l := .u8) (a := (R 1048583)) (c := (R 1048583)) rfl rfl (by rw [IntWalk.u32_in _ (by first | omega | (simp only [sumVal, oct.sumF, oct.F, oct.ws]; omega))])
def ArpDecodesRow8e6 : Ent := .bin .or (.chan (some 3)) (.chan (some 4)) (.chan (some 5))
theorem ArpDecodesRow8e6_ok (w : World) (R : Nat → Int) (hR : ∀ j, 0 ≤ R j ∧ R j ≤ 255) (A0 : Addr) (n0 cp0 : Nat) (w0 : RowIn R 1048576 w A0 n0 cp0) (hn : n0 ≤ 70000) (hm : 1 ≤ n0) (hk : ArpDecodesRow8K R n0) : @EntOK (ArpDecodesRow8V R hR n0) Try.prog ArpDecodesRow8e6 := by
  letI : Env := (ArpDecodesRow8V R hR n0)
  obtain ⟨k0, k1, k2, k3, k4, _⟩ := hk; have rb1048576 := hR 1048576; have rb1048577 := hR 1048577; have rb1048578 := hR 1048578; have rb1048582 := hR 1048582; have rb1048583 := hR 1048583; exact entOrV (k := .u32) (a := ((R 1048582) * 256)) (b := (R 1048583)) (c := (((R 1048582) * 256) + (R 1048583))) rfl rfl rfl (by exact join_u32 (R 1048582) (R 1048583) 8 256 (by decide) (by first | omega | (simp only [sumVal, oct.sumF, oct.F, oct.ws]; omega)) (by first | omega | (simp only [sumVal, oct.sumF, oct.F, oct.ws]; omega)) (by first | omega | (simp only [sumVal, oct.sumF, oct.F, oct.ws]; omega)) (by first | omega | (simp only [sumVal, oct.sumF, oct.F, oct.ws]; omega)))
def ArpDecodesRow8e7 : Ent := .conv .i64 (.chan (some 5)) (.chan (some 6))
theorem ArpDecodesRow8e7_ok (w : World) (R : Nat → Int) (hR : ∀ j, 0 ≤ R j ∧ R j ≤ 255) (A0 : Addr) (n0 cp0 : Nat) (w0 : RowIn R 1048576 w A0 n0 cp0) (hn : n0 ≤ 70000) (hm : 1 ≤ n0) (hk : ArpDecodesRow8K R n0) : @EntOK (ArpDecodesRow8V R hR n0) Try.prog ArpDecodesRow8e7 := by
  letI : Env := (ArpDecodesRow8V R hR n0)
  obtain ⟨k0, k1, k2, k3, k4, _⟩ := hk; have rb1048576 := hR 1048576; have rb1048577 := hR 1048577; have rb1048578 := hR 1048578; have rb1048582 := hR 1048582; have rb1048583 := hR 1048583; exact entConvV (k := .i64) (l := .u32) (a := (((R 1048582) * 256) + (R 1048583))) (c := (((R 1048582) * 256) + (R 1048583))) rfl rfl (by rw [IntWalk.i64_in _ (by first | omega | (simp only [sumVal, oct.sumF, oct.F, oct.ws]; omega))])
def ArpDecodesRow8e8 : Ent := .bin .eql (.chan (some 1048576)) (.int .u8 0) (.bool true)
theorem ArpDecodesRow8e8_ok (w : World) (R : Nat → Int) (hR : ∀ j, 0 ≤ R j ∧ R j ≤ 255) (A0 : Addr) (n0 cp0 : Nat) (w0 : RowIn R 1048576 w A0 n0 cp0) (hn : n0 ≤ 70000) (hm : 1 ≤ n0) (hk : ArpDecodesRow8K R n0) : @EntOK (ArpDecodesRow8V R hR n0) Try.prog ArpDecodesRow8e8 := by
  letI : Env := (ArpDecodesRow8V R hR n0)
  obtain ⟨k0, k1, k2, k3, k4, _⟩ := hk; have rb1048576 := hR 1048576; have rb1048577 := hR 1048577; have rb1048578 := hR 1048578; exact entCmp (k := .u8) (a := (R 1048576)) (b := 0) rfl rfl (by show some (((R 1048576) : Int) == 0) = some true; rw [beq_iff_eq.2 (by first | omega | (simp only [sumVal, oct.sumF, oct.F, oct.ws]; omega))])
def ArpDecodesRow8e9 : Ent := .bin .eql (.chan (some 1048577)) (.int .u8 1) (.bool true)
theorem ArpDecodesRow8e9_ok (w : World) (R : Nat → Int) (hR : ∀ j, 0 ≤ R j ∧ R j ≤ 255) (A0 : Addr) (n0 cp0 : Nat) (w0 : RowIn R 1048576 w A0 n0 cp0) (hn : n0 ≤ 70000) (hm : 1 ≤ n0) (hk : ArpDecodesRow8K R n0) : @EntOK (ArpDecodesRow8V R hR n0) Try.prog ArpDecodesRow8e9 := by
  letI : Env := (ArpDecodesRow8V R hR n0)
  obtain ⟨k0, k1, k2, k3, k4, _⟩ := hk; have rb1048576 := hR 1048576; have rb1048577 := hR 1048577; have rb1048578 := hR 1048578; exact entCmp (k := .u8) (a := (R 1048577)) (b := 1) rfl rfl (by show some (((R 1048577) : Int) == 1) = some true; rw [beq_iff_eq.2 (by first | omega | (simp only [sumVal, oct.sumF, oct.F, oct.ws]; omega))])
def ArpDecodesRow8e10 : Ent := .bin .eql (.chan (some 1048578)) (.int .u8 8) (.bool false)
theorem ArpDecodesRow8e10_ok (w : World) (R : Nat → Int) (hR : ∀ j, 0 ≤ R j ∧ R j ≤ 255) (A0 : Addr) (n0 cp0 : Nat) (w0 : RowIn R 1048576 w A0 n0 cp0) (hn : n0 ≤ 70000) (hm : 1 ≤ n0) (hk : ArpDecodesRow8K R n0) : @EntOK (ArpDecodesRow8V R hR n0) Try.prog ArpDecodesRow8e10 := by
  letI : Env := (ArpDecodesRow8V R hR n0)
  obtain ⟨k0, k1, k2, k3, k4, _⟩ := hk; have rb1048576 := hR 1048576; have rb1048577 := hR 1048577; have rb1048578 := hR 1048578; exact entCmp (k := .u8) (a := (R 1048578)) (b := 8) rfl rfl (by show some (((R 1048578) : Int) == 8) = some false; rw [beq_eq_false_iff_ne.2 (by first | omega | (simp only [sumVal, oct.sumF, oct.F, oct.ws]; omega))])
def ArpDecodesRow8e11 : Ent := .bin .neq (.chan (some 1048576)) (.int .u8 0) (.bool false)
theorem ArpDecodesRow8e11_ok (w : World) (R : Nat → Int) (hR : ∀ j, 0 ≤ R j ∧ R j ≤ 255) (A0 : Addr) (n0 cp0 : Nat) (w0 : RowIn R 1048576 w A0 n0 cp0) (hn : n0 ≤ 70000) (hm : 1 ≤ n0) (hk : ArpDecodesRow8K R n0) : @EntOK (ArpDecodesRow8V R hR n0) Try.prog ArpDecodesRow8e11 := by
  letI : Env := (ArpDecodesRow8V R hR n0)
  obtain ⟨k0, k1, k2, k3, k4, _⟩ := hk; have rb1048576 := hR 1048576; have rb1048577 := hR 1048577; have rb1048578 := hR 1048578; exact entCmp (k := .u8) (a := (R 1048576)) (b := 0) rfl rfl (by show some (((R 1048576) : Int) != 0) = some false; rw [bne_eq_false_iff_eq.2 (by first | omega | (simp only [sumVal, oct.sumF, oct.F, oct.ws]; omega))])
def ArpDecodesRow8e12 : Ent := .bin .neq (.chan (some 1048577)) (.int .u8 1) (.bool false)
theorem ArpDecodesRow8e12_ok (w : World) (R : Nat → Int) (hR : ∀ j, 0 ≤ R j ∧ R j ≤ 255) (A0 : Addr) (n0 cp0 : Nat) (w0 : RowIn R 1048576 w A0 n0 cp0) (hn : n0 ≤ 70000) (hm : 1 ≤ n0) (hk : ArpDecodesRow8K R n0) : @EntOK (ArpDecodesRow8V R hR n0) Try.prog ArpDecodesRow8e12 := by
  letI : Env := (ArpDecodesRow8V R hR n0)
  obtain ⟨k0, k1, k2, k3, k4, _⟩ := hk; have rb1048576 := hR 1048576; have rb1048577 := hR 1048577; have rb1048578 := hR 1048578; exact entCmp (k := .u8) (a := (R 1048577)) (b := 1) rfl rfl (by show some (((R 1048577) : Int) != 1) = some false; rw [bne_eq_false_iff_eq.2 (by first | omega | (simp only [sumVal, oct.sumF, oct.F, oct.ws]; omega))])
def ArpDecodesRow8e13 : Ent := .bin .neq (.chan (some 1048578)) (.int .u8 8) (.bool true)
theorem ArpDecodesRow8e13_ok (w : World) (R : Nat → Int) (hR : ∀ j, 0 ≤ R j ∧ R j ≤ 255) (A0 : Addr) (n0 cp0 : Nat) (w0 : RowIn R 1048576 w A0 n0 cp0) (hn : n0 ≤ 70000) (hm : 1 ≤ n0) (hk : ArpDecodesRow8K R n0) : @EntOK (ArpDecodesRow8V R hR n0) Try.prog ArpDecodesRow8e13 := by
  letI : Env := (ArpDecodesRow8V R hR n0)
  obtain ⟨k0, k1, k2, k3, k4, _⟩ := hk; have rb1048576 := hR 1048576; have rb1048577 := hR 1048577; have rb1048578 := hR 1048578; exact entCmp (k := .u8) (a := (R 1048578)) (b := 8) rfl rfl (by show some (((R 1048578) : Int) != 8) = some true; rw [bne_iff_ne.2 (by first | omega | (simp only [sumVal, oct.sumF, oct.F, oct.ws]; omega))])
set_option maxHeartbeats 4000000 in
theorem ArpDecodesRow8 (w : World) (R : Nat → Int) (hR : ∀ j, 0 ≤ R j ∧ R j ≤ 255) (A0 : Addr) (n0 cp0 : Nat) (w0 : RowIn R 1048576 w A0 n0 cp0) (hn : n0 ≤ 70000) (hm : 1 ≤ n0) (k0 : ¬ ((n0 : Int) > 4000)) (k1 : ¬ ((n0 : Int) < 28)) (k2 : (R 1048576) = 0) (k3 : (R 1048577) = 1) (k4 : ¬ ((R 1048578) = 8)) : Calls Try.prog 4 #[.slice (some A0) n0 cp0] w (fun e w' => e = .returned (.bool true) ∧ Only [] w w') := by
  letI : Env := (ArpDecodesRow8V R hR n0)
  have hk : ArpDecodesRow8K R n0 := ⟨k0, k1, k2, k3, k4, trivial⟩
  have hents : ∀ e ∈ ([ArpDecodesRow8e0, ArpDecodesRow8e1, ArpDecodesRow8e2, ArpDecodesRow8e3, ArpDecodesRow8e4, ArpDecodesRow8e5, ArpDecodesRow8e6, ArpDecodesRow8e7, ArpDecodesRow8e8, ArpDecodesRow8e9, ArpDecodesRow8e10, ArpDecodesRow8e11, ArpDecodesRow8e12, ArpDecodesRow8e13] : List Ent), EntOK Try.prog e := (allECons (ArpDecodesRow8e0_ok w R hR A0 n0 cp0 w0 hn hm hk) (allECons (ArpDecodesRow8e1_ok w R hR A0 n0 cp0 w0 hn hm hk) (allECons (ArpDecodesRow8e2_ok w R hR A0 n0 cp0 w0 hn hm hk) (allECons (ArpDecodesRow8e3_ok w R hR A0 n0 cp0 w0 hn hm hk) (allECons (ArpDecodesRow8e4_ok w R hR A0 n0 cp0 w0 hn hm hk) (allECons (ArpDecodesRow8e5_ok w R hR A0 n0 cp0 w0 hn hm hk) (allECons (ArpDecodesRow8e6_ok w R hR A0 n0 cp0 w0 hn hm hk) (allECons (ArpDecodesRow8e7_ok w R hR A0 n0 cp0 w0 hn hm hk) (allECons (ArpDecodesRow8e8_ok w R hR A0 n0 cp0 w0 hn hm hk) (allECons (ArpDecodesRow8e9_ok w R hR A0 n0 cp0 w0 hn hm hk) (allECons (ArpDecodesRow8e10_ok w R hR A0 n0 cp0 w0 hn hm hk) (allECons (ArpDecodesRow8e11_ok w R hR A0 n0 cp0 w0 hn hm hk) (allECons (ArpDecodesRow8e12_ok w R hR A0 n0 cp0 w0 hn hm hk) (allECons (ArpDecodesRow8e13_ok w R hR A0 n0 cp0 w0 hn hm hk) allENil))))))))))))))
  have hsp : SpOK Try.prog (spTwo (spHelp ⟨14, 16, 19, 5⟩ [0]) (spTwo (spBeq 36 [ArpDecodesRow8e0, ArpDecodesRow8e1, ArpDecodesRow8e2, ArpDecodesRow8e3, ArpDecodesRow8e4, ArpDecodesRow8e5, ArpDecodesRow8e6, ArpDecodesRow8e7, ArpDecodesRow8e8, ArpDecodesRow8e9, ArpDecodesRow8e10, ArpDecodesRow8e11, ArpDecodesRow8e12, ArpDecodesRow8e13]) (spKnown 15))) := (spTwo_ok (spHelp_ok helpC (by
    intro q hq
    simp only [List.mem_cons, List.not_mem_nil, or_false] at hq
    subst hq
    rw [lenOf_eq (n := n0) rfl]; omega)) (spTwo_ok (spBeq_ok beqC hents) (spKnown_ok knownBody known)))
  refine lawR (tab := tabG Try.prog [ArpDecodesRow8e0, ArpDecodesRow8e1, ArpDecodesRow8e2, ArpDecodesRow8e3, ArpDecodesRow8e4, ArpDecodesRow8e5, ArpDecodesRow8e6, ArpDecodesRow8e7, ArpDecodesRow8e8, ArpDecodesRow8e9, ArpDecodesRow8e10, ArpDecodesRow8e11, ArpDecodesRow8e12, ArpDecodesRow8e13]) (sp := (spTwo (spHelp ⟨14, 16, 19, 5⟩ [0]) (spTwo (spBeq 36 [ArpDecodesRow8e0, ArpDecodesRow8e1, ArpDecodesRow8e2, ArpDecodesRow8e3, ArpDecodesRow8e4, ArpDecodesRow8e5, ArpDecodesRow8e6, ArpDecodesRow8e7, ArpDecodesRow8e8, ArpDecodesRow8e9, ArpDecodesRow8e10, ArpDecodesRow8e11, ArpDecodesRow8e12, ArpDecodesRow8e13]) (spKnown 15)))) hsp (tabG_ok hents) (f := 300) (args := [.slice (some ⟨0, 0, some 1⟩) 28 0]) (args' := [.slice (some A0) n0 cp0]) (c0 := 1) (h0 := mem1 (rowAo 1048576 0 28 5)) (β0 := mp1 (rowIm A0 n0)) (w := w) (by kernel_rfl) (sim1 rfl w0.lt (rowIn_ob w0 (by decide) rfl (by omega))) (fun i hi => ?_) ?_
  · match i, hi with
    | i + 1, _ => rfl
  · exact (PW.cons (rowIn_vr (m := 28) w0 rfl (by omega) (by omega) rfl) (PW.nil _))
abbrev ArpDecodesRow9V (R : Nat → Int) (hR : ∀ j, 0 ≤ R j ∧ R j ≤ 255) (n0 : Nat) : Env := envR [.int .i64 (n0 : Int), .int .u32 (R 1048582), .int .u32 (R 1048582), .int .u32 ((R 1048582) * 256), .int .u32 (R 1048583), .int .u32 (((R 1048582) * 256) + (R 1048583)), .int .i64 (((R 1048582) * 256) + (R 1048583))] R hR
def ArpDecodesRow9K (R : Nat → Int) (n0 : Nat) : Prop := (¬ ((n0 : Int) > 4000)) ∧ (¬ ((n0 : Int) < 28)) ∧ ((R 1048576) = 0) ∧ ((R 1048577) = 1) ∧ ((R 1048578) = 8) ∧ (¬ ((R 1048579) = 0)) ∧ True
def ArpDecodesRow9e0 : Ent := .bin .gtr (.chan (some 0)) (.int .i64 4000) (.bool false)
theorem ArpDecodesRow9e0_ok (w : World) (R : Nat → Int) (hR : ∀ j, 0 ≤ R j ∧ R j ≤ 255) (A0 : Addr) (n0 cp0 : Nat) (w0 : RowIn R 1048576 w A0 n0 cp0) (hn : n0 ≤ 70000) (hm : 1 ≤ n0) (hk : ArpDecodesRow9K R n0) : @EntOK (ArpDecodesRow9V R hR n0) Try.prog ArpDecodesRow9e0 := by
  letI : Env := (ArpDecodesRow9V R hR n0)
  obtain ⟨k0, k1, k2, k3, k4, k5, _⟩ := hk; have rb1048576 := hR 1048576; have rb1048577 := hR 1048577; have rb1048578 := hR 1048578; have rb1048579 := hR 1048579; exact entCmp (k := .i64) (a := (n0 : Int)) (b := 4000) rfl rfl (by show some (decide (((n0 : Int) : Int) > 4000)) = some false; rw [decide_eq_false (by first | omega | (simp only [sumVal, oct.sumF, oct.F, oct.ws]; omega))])
def ArpDecodesRow9e1 : Ent := .bin .lss (.chan (some 0)) (.int .i64 28) (.bool false)
theorem ArpDecodesRow9e1_ok (w : World) (R : Nat → Int) (hR : ∀ j, 0 ≤ R j ∧ R j ≤ 255) (A0 : Addr) (n0 cp0 : Nat) (w0 : RowIn R 1048576 w A0 n0 cp0) (hn : n0 ≤ 70000) (hm : 1 ≤ n0) (hk : ArpDecodesRow9K R n0) : @EntOK (ArpDecodesRow9V R hR n0) Try.prog ArpDecodesRow9e1 := by
  letI : Env := (ArpDecodesRow9V R hR n0)
  obtain ⟨k0, k1, k2, k3, k4, k5, _⟩ := hk; have rb1048576 := hR 1048576; have rb1048577 := hR 1048577; have rb1048578 := hR 1048578; have rb1048579 := hR 1048579; exact entCmp (k := .i64) (a := (n0 : Int)) (b := 28) rfl rfl (by show some (decide (((n0 : Int) : Int) < 28)) = some false; rw [decide_eq_false (by first | omega | (simp only [sumVal, oct.sumF, oct.F, oct.ws]; omega))])
def ArpDecodesRow9e2 : Ent := .conv .u32 (.chan (some 1048582)) (.chan (some 1))
theorem ArpDecodesRow9e2_ok (w : World) (R : Nat → Int) (hR : ∀ j, 0 ≤ R j ∧ R j ≤ 255) (A0 : Addr) (n0 cp0 : Nat) (w0 : RowIn R 1048576 w A0 n0 cp0) (hn : n0 ≤ 70000) (hm : 1 ≤ n0) (hk : ArpDecodesRow9K R n0) : @EntOK (ArpDecodesRow9V R hR n0) Try.prog ArpDecodesRow9e2 := by
  letI : Env := (ArpDecodesRow9V R hR n0)
  obtain ⟨k0, k1, k2, k3, k4, k5, _⟩ := hk; have rb1048576 := hR 1048576; have rb1048577 := hR 1048577; have rb1048578 := hR 1048578; have rb1048579 := hR 1048579; have rb1048582 := hR 1048582; exact entConvV (k := .u32) (l := .u8) (a := (R 1048582)) (c := (R 1048582)) rfl rfl (by rw [IntWalk.u32_in _ (by first | omega | (simp only [sumVal, oct.sumF, oct.F, oct.ws]; omega))])
def ArpDecodesRow9e3 : Ent := .bin .or (.int .u32 0) (.chan (some 1)) (.chan (some 2))
theorem ArpDecodesRow9e3_ok (w : World) (R : Nat → Int) (hR : ∀ j, 0 ≤ R j ∧ R j ≤ 255) (A0 : Addr) (n0 cp0 : Nat) (w0 : RowIn R 1048576 w A0 n0 cp0) (hn : n0 ≤ 70000) (hm : 1 ≤ n0) (hk : ArpDecodesRow9K R n0) : @EntOK (ArpDecodesRow9V R hR n0) Try.prog ArpDecodesRow9e3 := by
  letI : Env := (ArpDecodesRow9V R hR n0)
  obtain ⟨k0, k1, k2, k3, k4, k5, _⟩ := hk; have rb1048576 := hR 1048576; have rb1048577 := hR 1048577; have rb1048578 := hR 1048578; have rb1048579 := hR 1048579; have rb1048582 := hR 1048582; exact entOrV (k := .u32) (a := 0) (b := (R 1048582)) (c := (R 1048582)) rfl rfl rfl (by have h := join_u32 0 (R 1048582) 8 256 (by decide) (by omega) (by first | omega | (simp only [sumVal, oct.sumF, oct.F, oct.ws]; omega)) (by first | omega | (simp only [sumVal, oct.sumF, oct.F, oct.ws]; omega)) (by first | omega | (simp only [sumVal, oct.sumF, oct.F, oct.ws]; omega)); simpa using h)
def ArpDecodesRow9e4 : Ent := .bin .shl (.chan (some 2)) (.int .u64 8) (.chan (some 3))
theorem ArpDecodesRow9e4_ok (w : World) (R : Nat → Int) (hR : ∀ j, 0 ≤ R j ∧ R j ≤ 255) (A0 : Addr) (n0 cp0 : Nat) (w0 : RowIn R 1048576 w A0 n0 cp0) (hn : n0 ≤ 70000) (hm : 1 ≤ n0) (hk : ArpDecodesRow9K R n0) : @EntOK (ArpDecodesRow9V R hR n0) Try.prog ArpDecodesRow9e4 := by
  letI : Env := (ArpDecodesRow9V R hR n0)
  obtain ⟨k0, k1, k2, k3, k4, k5, _⟩ := hk; have rb1048576 := hR 1048576; have rb1048577 := hR 1048577; have rb1048578 := hR 1048578; have rb1048579 := hR 1048579; have rb1048582 := hR 1048582; exact entShlV (k := .u32) (l := .u64) (a := (R 1048582)) (c := ((R 1048582) * 256)) (s := 8) rfl rfl rfl (by decide) (by show IntKind.u32.wrap ((R 1048582) * 2 ^ 8) = ((R 1048582) * 256); rw [show ((2 : Int) ^ 8) = 256 from by decide, IntWalk.u32_in _ (by first | omega | (simp only [sumVal, oct.sumF, oct.F, oct.ws]; omega))])
def ArpDecodesRow9e5 : Ent := .conv .u32 (.chan (some 1048583)) (.chan (some 4))
theorem ArpDecodesRow9e5_ok (w : World) (R : Nat → Int) (hR : ∀ j, 0 ≤ R j ∧ R j ≤ 255) (A0 : Addr) (n0 cp0 : Nat) (w0 : RowIn R 1048576 w A0 n0 cp0) (hn : n0 ≤ 70000) (hm : 1 ≤ n0) (hk : ArpDecodesRow9K R n0) : @EntOK (ArpDecodesRow9V R hR n0) Try.prog ArpDecodesRow9e5 := by
  letI : Env := (ArpDecodesRow9V R hR n0)
  obtain ⟨k0, k1, k2, k3, k4, k5, _⟩ := hk; have rb1048576 := hR 1048576; have rb1048577 := hR 1048577; have rb1048578 := hR 1048578; have rb1048579 := hR 1048579; have rb1048583 := hR 1048583; exact entConvV (k := .u32) (l := .u8) (a := (R 1048583)) (c := (R 1048583)) rfl rfl (by rw [IntWalk.u32_in _ (by first | omega | (simp only [sumVal, oct.sumF, oct.F, oct.ws]; omega))])
def ArpDecodesRow9e6 : Ent := .bin .or (.chan (some 3)) (.chan (some 4)) (.chan (some 5))
theorem ArpDecodesRow9e6_ok (w : World) (R : Nat → Int) (hR : ∀ j, 0 ≤ R j ∧ R j ≤ 255) (A0 : Addr) (n0 cp0 : Nat) (w0 : RowIn R 1048576 w A0 n0 cp0) (hn : n0 ≤ 70000) (hm : 1 ≤ n0) (hk : ArpDecodesRow9K R n0) : @EntOK (ArpDecodesRow9V R hR n0) Try.prog ArpDecodesRow9e6 := by
  letI : Env := (ArpDecodesRow9V R hR n0)
  obtain ⟨k0, k1, k2, k3, k4, k5, _⟩ := hk; have rb1048576 := hR 1048576; have rb1048577 := hR 1048577; have rb1048578 := hR 1048578; have rb1048579 := hR 1048579; have rb1048582 := hR 1048582; have rb1048583 := hR 1048583; exact entOrV (k := .u32) (a := ((R 1048582) * 256)) (b := (R 1048583)) (c := (((R 1048582) * 256) + (R 1048583))) rfl rfl rfl (by exact join_u32 (R 1048582) (R 1048583) 8 256 (by decide) (by first | omega | (simp only [sumVal, oct.sumF, oct.F, oct.ws]; omega)) (by first | omega | (simp only [sumVal, oct.sumF, oct.F, oct.ws]; omega)) (by first | omega | (simp only [sumVal, oct.sumF, oct.F, oct.ws]; omega)) (by first | omega | (simp only [sumVal, oct.sumF, oct.F, oct.ws]; omega)))
def ArpDecodesRow9e7 : Ent := .conv .i64 (.chan (some 5)) (.chan (some 6))
theorem ArpDecodesRow9e7_ok (w : World) (R : Nat → Int) (hR : ∀ j, 0 ≤ R j ∧ R j ≤ 255) (A0 : Addr) (n0 cp0 : Nat) (w0 : RowIn R 1048576 w A0 n0 cp0) (hn : n0 ≤ 70000) (hm : 1 ≤ n0) (hk : ArpDecodesRow9K R n0) : @EntOK (ArpDecodesRow9V R hR n0) Try.prog ArpDecodesRow9e7 := by
  letI : Env := (ArpDecodesRow9V R hR n0)
  obtain ⟨k0, k1, k2, k3, k4, k5, _⟩ := hk; have rb1048576 := hR 1048576; have rb1048577 := hR 1048577; have rb1048578 := hR 1048578; have rb1048579 := hR 1048579; have rb1048582 := hR 1048582; have rb1048583 := hR 1048583; exact entConvV (k := .i64) (l := .u32) (a := (((R 1048582) * 256) + (R 1048583))) (c := (((R 1048582) * 256) + (R 1048583))) rfl rfl (by rw [IntWalk.i64_in _ (by first | omega | (simp only [sumVal, oct.sumF, oct.F, oct.ws]; omega))])
def ArpDecodesRow9e8 : Ent := .bin .eql (.chan (some 1048576)) (.int .u8 0) (.bool true)
theorem ArpDecodesRow9e8_ok (w : World) (R : Nat → Int) (hR : ∀ j, 0 ≤ R j ∧ R j ≤ 255) (A0 : Addr) (n0 cp0 : Nat) (w0 : RowIn R 1048576 w A0 n0 cp0) (hn : n0 ≤ 70000) (hm : 1 ≤ n0) (hk : ArpDecodesRow9K R n0) : @EntOK (ArpDecodesRow9V R hR n0) Try.prog ArpDecodesRow9e8 := by
  letI : Env := (ArpDecodesRow9V R hR n0)
  obtain ⟨k0, k1, k2, k3, k4, k5, _⟩ := hk; have rb1048576 := hR 1048576; have rb1048577 := hR 1048577; have rb1048578 := hR 1048578; have rb1048579 := hR 1048579; exact entCmp (k := .u8) (a := (R 1048576)) (b := 0) rfl rfl (by show some (((R 1048576) : Int) == 0) = some true; rw [beq_iff_eq.2 (by first | omega | (simp only [sumVal, oct.sumF, oct.F, oct.ws]; omega))])
def ArpDecodesRow9e9 : Ent := .bin .eql (.chan (some 1048577)) (.int .u8 1) (.bool true)
theorem ArpDecodesRow9e9_ok (w : World) (R : Nat → Int) (hR : ∀ j, 0 ≤ R j ∧ R j ≤ 255) (A0 : Addr) (n0 cp0 : Nat) (w0 : RowIn R 1048576 w A0 n0 cp0) (hn : n0 ≤ 70000) (hm : 1 ≤ n0) (hk : ArpDecodesRow9K R n0) : @EntOK (ArpDecodesRow9V R hR n0) Try.prog ArpDecodesRow9e9 := by
  letI : Env := (ArpDecodesRow9V R hR n0)
  obtain ⟨k0, k1, k2, k3, k4, k5, _⟩ := hk; have rb1048576 := hR 1048576; have rb1048577 := hR 1048577; have rb1048578 := hR 1048578; have rb1048579 := hR 1048579; exact entCmp (k := .u8) (a := (R 1048577)) (b := 1) rfl rfl (by show some (((R 1048577) : Int) == 1) = some true; rw [beq_iff_eq.2 (by first | omega | (simp only [sumVal, oct.sumF, oct.F, oct.ws]; omega))])
def ArpDecodesRow9e10 : Ent := .bin .eql (.chan (some 1048578)) (.int .u8 8) (.bool true)
theorem ArpDecodesRow9e10_ok (w : World) (R : Nat → Int) (hR : ∀ j, 0 ≤ R j ∧ R j ≤ 255) (A0 : Addr) (n0 cp0 : Nat) (w0 : RowIn R 1048576 w A0 n0 cp0) (hn : n0 ≤ 70000) (hm : 1 ≤ n0) (hk : ArpDecodesRow9K R n0) : @EntOK (ArpDecodesRow9V R hR n0) Try.prog ArpDecodesRow9e10 := by
  letI : Env := (ArpDecodesRow9V R hR n0)
  obtain ⟨k0, k1, k2, k3, k4, k5, _⟩ := hk; have rb1048576 := hR 1048576; have rb1048577 := hR 1048577; have rb1048578 := hR 1048578; have rb1048579 := hR 1048579; exact entCmp (k := .u8) (a := (R 1048578)) (b := 8) rfl rfl (by show some (((R 1048578) : Int) == 8) = some true; rw [beq_iff_eq.2 (by first | omega | (simp only [sumVal, oct.sumF, oct.F, oct.ws]; omega))])
def ArpDecodesRow9e11 : Ent := .bin .eql (.chan (some 1048579)) (.int .u8 0) (.bool false)
theorem ArpDecodesRow9e11_ok (w : World) (R : Nat → Int) (hR : ∀ j, 0 ≤ R j ∧ R j ≤ 255) (A0 : Addr) (n0 cp0 : Nat) (w0 : RowIn R 1048576 w A0 n0 cp0) (hn : n0 ≤ 70000) (hm : 1 ≤ n0) (hk : ArpDecodesRow9K R n0) : @EntOK (ArpDecodesRow9V R hR n0) Try.prog ArpDecodesRow9e11 := by
  letI : Env := (ArpDecodesRow9V R hR n0)
  obtain ⟨k0, k1, k2, k3, k4, k5, _⟩ := hk; have rb1048576 := hR 1048576; have rb1048577 := hR 1048577; have rb1048578 := hR 1048578; have rb1048579 := hR 1048579; exact entCmp (k := .u8) (a := (R 1048579)) (b := 0) rfl rfl (by show some (((R 1048579) : Int) == 0) = some false; rw [beq_eq_false_iff_ne.2 (by first | omega | (simp only [sumVal, oct.sumF, oct.F, oct.ws]; omega))])
def ArpDecodesRow9e12 : Ent := .bin .neq (.chan (some 1048576)) (.int .u8 0) (.bool false)
theorem ArpDecodesRow9e12_ok (w : World) (R : Nat → Int) (hR : ∀ j, 0 ≤ R j ∧ R j ≤ 255) (A0 : Addr) (n0 cp0 : Nat) (w0 : RowIn R 1048576 w A0 n0 cp0) (hn : n0 ≤ 70000) (hm : 1 ≤ n0) (hk : ArpDecodesRow9K R n0) : @EntOK (ArpDecodesRow9V R hR n0) Try.prog ArpDecodesRow9e12 := by
  letI : Env := (ArpDecodesRow9V R hR n0)
  obtain ⟨k0, k1, k2, k3, k4, k5, _⟩ := hk; have rb1048576 := hR 1048576; have rb1048577 := hR 1048577; have rb1048578 := hR 1048578; have rb1048579 := hR 1048579; exact entCmp (k := .u8) (a := (R 1048576)) (b := 0) rfl rfl (by show some (((R 1048576) : Int) != 0) = some false; rw [bne_eq_false_iff_eq.2 (by first | omega | (simp only [sumVal, oct.sumF, oct.F, oct.ws]; omega))])
def ArpDecodesRow9e13 : Ent := .bin .neq (.chan (some 1048577)) (.int .u8 1) (.bool false)
theorem ArpDecodesRow9e13_ok (w : World) (R : Nat → Int) (hR : ∀ j, 0 ≤ R j ∧ R j ≤ 255) (A0 : Addr) (n0 cp0 : Nat) (w0 : RowIn R 1048576 w A0 n0 cp0) (hn : n0 ≤ 70000) (hm : 1 ≤ n0) (hk : ArpDecodesRow9K R n0) : @EntOK (ArpDecodesRow9V R hR n0) Try.prog ArpDecodesRow9e13 := by
  letI : Env := (ArpDecodesRow9V R hR n0)
  obtain ⟨k0, k1, k2, k3, k4, k5, _⟩ := hk; have rb1048576 := hR 1048576; have rb1048577 := hR 1048577; have rb1048578 := hR 1048578; have rb1048579 := hR 1048579; exact entCmp (k := .u8) (a := (R 1048577)) (b := 1) rfl rfl (by show some (((R 1048577) : Int) != 1) = some false; rw [bne_eq_false_iff_eq.2 (by first | omega | (simp only [sumVal, oct.sumF, oct.F, oct.ws]; omega))])
def ArpDecodesRow9e14 : Ent := .bin .neq (.chan (some 1048578)) (.int .u8 8) (.bool false)
theorem ArpDecodesRow9e14_ok (w : World) (R : Nat → Int) (hR : ∀ j, 0 ≤ R j ∧ R j ≤ 255) (A0 : Addr) (n0 cp0 : Nat) (w0 : RowIn R 1048576 w A0 n0 cp0) (hn : n0 ≤ 70000) (hm : 1 ≤ n0) (hk : ArpDecodesRow9K R n0) : @EntOK (ArpDecodesRow9V R hR n0) Try.prog ArpDecodesRow9e14 := by
  letI : Env := (ArpDecodesRow9V R hR n0)
  obtain ⟨k0, k1, k2, k3, k4, k5, _⟩ := hk; have rb1048576 := hR 1048576; have rb1048577 := hR 1048577; have rb1048578 := hR 1048578; have rb1048579 := hR 1048579; exact entCmp (k := .u8) (a := (R 1048578)) (b := 8) rfl rfl (by show some (((R 1048578) : Int) != 8) = some false; rw [bne_eq_false_iff_eq.2 (by first | omega | (simp only [sumVal, oct.sumF, oct.F, oct.ws]; omega))])
def ArpDecodesRow9e15 : Ent := .bin .neq (.chan (some 1048579)) (.int .u8 0) (.bool true)
theorem ArpDecodesRow9e15_ok (w : World) (R : Nat → Int) (hR : ∀ j, 0 ≤ R j ∧ R j ≤ 255) (A0 : Addr) (n0 cp0 : Nat) (w0 : RowIn R 1048576 w A0 n0 cp0) (hn : n0 ≤ 70000) (hm : 1 ≤ n0) (hk : ArpDecodesRow9K R n0) : @EntOK (ArpDecodesRow9V R hR n0) Try.prog ArpDecodesRow9e15 := by
  letI : Env := (ArpDecodesRow9V R hR n0)
  obtain ⟨k0, k1, k2, k3, k4, k5, _⟩ := hk; have rb1048576 := hR 1048576; have rb1048577 := hR 1048577; have rb1048578 := hR 1048578; have rb1048579 := hR 1048579; exact entCmp (k := .u8) (a := (R 1048579)) (b := 0) rfl rfl (by show some (((R 1048579) : Int) != 0) = some true; rw [bne_iff_ne.2 (by first | omega | (simp only [sumVal, oct.sumF, oct.F, oct.ws]; omega))])
set_option maxHeartbeats 4000000 in
theorem ArpDecodesRow9 (w : World) (R : Nat → Int) (hR : ∀ j, 0 ≤ R j ∧ R j ≤ 255) (A0 : Addr) (n0 cp0 : Nat) (w0 : RowIn R 1048576 w A0 n0 cp0) (hn : n0 ≤ 70000) (hm : 1 ≤ n0) (k0 : ¬ ((n0 : Int) > 4000)) (k1 : ¬ ((n0 : Int) < 28)) (k2 : (R 1048576) = 0) (k3 : (R 1048577) = 1) (k4 : (R 1048578) = 8) (k5 : ¬ ((R 1048579) = 0)) : Calls Try.prog 4 #[.slice (some A0) n0 cp0] w (fun e w' => e = .returned (.bool true) ∧ Only [] w w') := by
  letI : Env := (ArpDecodesRow9V R hR n0)
  have hk : ArpDecodesRow9K R n0 := ⟨k0, k1, k2, k3, k4, k5, trivial⟩
  have hents : ∀ e ∈ ([ArpDecodesRow9e0, ArpDecodesRow9e1, ArpDecodesRow9e2, ArpDecodesRow9e3, ArpDecodesRow9e4, ArpDecodesRow9e5, ArpDecodesRow9e6, ArpDecodesRow9e7, ArpDecodesRow9e8, ArpDecodesRow9e9, ArpDecodesRow9e10, ArpDecodesRow9e11, ArpDecodesRow9e12, ArpDecodesRow9e13, ArpDecodesRow9e14, ArpDecodesRow9e15] : List Ent), EntOK Try.prog e := (allECons (ArpDecodesRow9e0_ok w R hR A0 n0 cp0 w0 hn hm hk) (allECons (ArpDecodesRow9e1_ok w R hR A0 n0 cp0 w0 hn hm hk) (allECons (ArpDecodesRow9e2_ok w R hR A0 n0 cp0 w0 hn hm hk) (allECons (ArpDecodesRow9e3_ok w R hR A0 n0 cp0 w0 hn hm hk) (allECons (ArpDecodesRow9e4_ok w R hR A0 n0 cp0 w0 hn hm hk) (allECons (ArpDecodesRow9e5_ok w R hR A0 n0 cp0 w0 hn hm hk) (allECons (ArpDecodesRow9e6_ok w R hR A0 n0 cp0 w0 hn hm hk) (allECons (ArpDecodesRow9e7_ok w R hR A0 n0 cp0 w0 hn hm hk) (allECons (ArpDecodesRow9e8_ok w R hR A0 n0 cp0 w0 hn hm hk) (allECons (ArpDecodesRow9e9_ok w R hR A0 n0 cp0 w0 hn hm hk) (allECons (ArpDecodesRow9e10_ok w R hR A0 n0 cp0 w0 hn hm hk) (allECons (ArpDecodesRow9e11_ok w R hR A0 n0 cp0 w0 hn hm hk) (allECons (ArpDecodesRow9e12_ok w R hR A0 n0 cp0 w0 hn hm hk) (allECons (ArpDecodesRow9e13_ok w R hR A0 n0 cp0 w0 hn hm hk) (allECons (ArpDecodesRow9e14_ok w R hR A0 n0 cp0 w0 hn hm hk) (allECons (ArpDecodesRow9e15_ok w R hR A0 n0 cp0 w0 hn hm hk) allENil))))))))))))))))
  have hsp : SpOK Try.prog (spTwo (spHelp ⟨14, 16, 19, 5⟩ [0]) (spTwo (spBeq 36 [ArpDecodesRow9e0, ArpDecodesRow9e1, ArpDecodesRow9e2, ArpDecodesRow9e3, ArpDecodesRow9e4, ArpDecodesRow9e5, ArpDecodesRow9e6, ArpDecodesRow9e7, ArpDecodesRow9e8, ArpDecodesRow9e9, ArpDecodesRow9e10, ArpDecodesRow9e11, ArpDecodesRow9e12, ArpDecodesRow9e13, ArpDecodesRow9e14, ArpDecodesRow9e15]) (spKnown 15))) := (spTwo_ok (spHelp_ok helpC (by
    intro q hq
    simp only [List.mem_cons, List.not_mem_nil, or_false] at hq
    subst hq
    rw [lenOf_eq (n := n0) rfl]; omega)) (spTwo_ok (spBeq_ok beqC hents) (spKnown_ok knownBody known)))
  refine lawR (tab := tabG Try.prog [ArpDecodesRow9e0, ArpDecodesRow9e1, ArpDecodesRow9e2, ArpDecodesRow9e3, ArpDecodesRow9e4, ArpDecodesRow9e5, ArpDecodesRow9e6, ArpDecodesRow9e7, ArpDecodesRow9e8, ArpDecodesRow9e9, ArpDecodesRow9e10, ArpDecodesRow9e11, ArpDecodesRow9e12, ArpDecodesRow9e13, ArpDecodesRow9e14, ArpDecodesRow9e15]) (sp := (spTwo (spHelp ⟨14, 16, 19, 5⟩ [0]) (spTwo (spBeq 36 [ArpDecodesRow9e0, ArpDecodesRow9e1, ArpDecodesRow9e2, ArpDecodesRow9e3, ArpDecodesRow9e4, ArpDecodesRow9e5, ArpDecodesRow9e6, ArpDecodesRow9e7, ArpDecodesRow9e8, ArpDecodesRow9e9, ArpDecodesRow9e10, ArpDecodesRow9e11, ArpDecodesRow9e12, ArpDecodesRow9e13, ArpDecodesRow9e14, ArpDecodesRow9e15]) (spKnown 15)))) hsp (tabG_ok hents) (f := 300) (args := [.slice (some ⟨0, 0, some 1⟩) 28 0]) (args' := [.slice (some A0) n0 cp0]) (c0 := 1) (h0 := mem1 (rowAo 1048576 0 28 5)) (β0 := mp1 (rowIm A0 n0)) (w := w) (by kernel_rfl) (sim1 rfl w0.lt (rowIn_ob w0 (by decide) rfl (by omega))) (fun i hi => ?_) ?_
  · match i, hi with
    | i + 1, _ => rfl
  · exact (PW.cons (rowIn_vr (m := 28) w0 rfl (by omega) (by omega) rfl) (PW.nil _))
abbrev ArpDecodesRow10V (R : Nat → Int) (hR : ∀ j, 0 ≤ R j ∧ R j ≤ 255) (n0 : Nat) : Env := envR [.int .i64 (n0 : Int), .int .u32 (R 1048582), .int .u32 (R 1048582), .int .u32 ((R 1048582) * 256), .int .u32 (R 1048583), .int .u32 (((R 1048582) * 256) + (R 1048583)), .int .i64 (((R 1048582) * 256) + (R 1048583))] R hR
def ArpDecodesRow10K (R : Nat → Int) (n0 : Nat) : Prop := (¬ ((n0 : Int) > 4000)) ∧ (¬ ((n0 : Int) < 28)) ∧ ((R 1048576) = 0) ∧ ((R 1048577) = 1) ∧ ((R 1048578) = 8) ∧ ((R 1048579) = 0) ∧ (¬ ((R 1048580) = 6)) ∧ True
def ArpDecodesRow10e0 : Ent := .bin .gtr (.chan (some 0)) (.int .i64 4000) (.bool false)
theorem ArpDecodesRow10e0_ok (w : World) (R : Nat → Int) (hR : ∀ j, 0 ≤ R j ∧ R j ≤ 255) (A0 : Addr) (n0 cp0 : Nat) (w0 : RowIn R 1048576 w A0 n0 cp0) (hn : n0 ≤ 70000) (hm : 1 ≤ n0) (hk : ArpDecodesRow10K R n0) : @EntOK (ArpDecodesRow10V R hR n0) Try.prog ArpDecodesRow10e0 := by
  letI : Env := (ArpDecodesRow10V R hR n0)
  obtain ⟨k0, k1, k2, k3, k4, k5, k6, _⟩ := hk; have rb1048576 := hR 1048576; have rb1048577 := hR 1048577; have rb1048578 := hR 1048578; have rb1048579 := hR 1048579; have rb1048580 := hR 1048580; exact entCmp (k := .i64) (a := (n0 : Int)) (b := 4000) rfl rfl (by show some (decide (((n0 : Int) : Int) > 4000)) = some false; rw [decide_eq_false (by first | omega | (simp only [sumVal, oct.sumF, oct.F, oct.ws]; omega))])
def ArpDecodesRow10e1 : Ent := .bin .lss (.chan (some 0)) (.int .i64 28) (.bool false)
theorem ArpDecodesRow10e1_ok (w : World) (R : Nat → Int) (hR : ∀ j, 0 ≤ R j ∧ R j ≤ 255) (A0 : Addr) (n0 cp0 : Nat) (w0 : RowIn R 1048576 w A0 n0 cp0) (hn : n0 ≤ 70000) (hm : 1 ≤ n0) (hk : ArpDecodesRow10K R n0) : @EntOK (ArpDecodesRow10V R hR n0) Try.prog ArpDecodesRow10e1 := by
  letI : Env := (ArpDecodesRow10V R hR n0)
  obtain ⟨k0, k1, k2, k3, k4, k5, k6, _⟩ := hk; have rb1048576 := hR 1048576; have rb1048577 := hR 1048577; have rb1048578 := hR 1048578; have rb1048579 := hR 1048579; have rb1048580 := hR 1048580; exact entCmp (k := .i64) (a := (n0 : Int)) (b := 28) rfl rfl (by show some (decide (((n0 : Int) : Int) < 28)) = some false; rw [decide_eq_false (by first | omega | (simp only [sumVal, oct.sumF, oct.F, oct.ws]; omega))])
def ArpDecodesRow10e2 : Ent := .conv .u32 (.chan (some 1048582)) (.chan (some 1))
theorem ArpDecodesRow10e2_ok (w : World) (R : Nat → Int) (hR : ∀ j, 0 ≤ R j ∧ R j ≤ 255) (A0 : Addr) (n0 cp0 : Nat) (w0 : RowIn R 1048576 w A0 n0 cp0) (hn : n0 ≤ 70000) (hm : 1 ≤ n0) (hk : ArpDecodesRow10K R n0) : @EntOK (ArpDecodesRow10V R hR n0) Try.prog ArpDecodesRow10e2 := by
  letI : Env := (ArpDecodesRow10V R hR n0)
  obtain ⟨k0, k1, k2, k3, k4, k5, k6, _⟩ := hk; have rb1048576 := hR 1048576; have rb1048577 := hR 1048577; have rb1048578 := hR 1048578; have rb1048579 := hR 1048579; have rb1048580 := hR 1048580; have rb1048582 := hR 1048582; exact entConvV (k := .u32) (l := .u8) (a := (R 1048582)) (c := (R 1048582)) rfl rfl (by rw [IntWalk.u32_in _ (by first | omega | (simp only [sumVal, oct.sumF, oct.F, oct.ws]; omega))])
def ArpDecodesRow10e3 : Ent := .bin .or (.int .u32 0) (.chan (some 1)) (.chan (some 2))
theorem ArpDecodesRow10e3_ok (w : World) (R : Nat → Int) (hR : ∀ j, 0 ≤ R j ∧ R j ≤ 255) (A0 : Addr) (n0 cp0 : Nat) (w0 : RowIn R 1048576 w A0 n0 cp0) (hn : n0 ≤ 70000) (hm : 1 ≤ n0) (hk : ArpDecodesRow10K R n0) : @EntOK (ArpDecodesRow10V R hR n0) Try.prog ArpDecodesRow10e3 := by
  letI : Env := (ArpDecodesRow10V R hR n0)
  obtain ⟨k0, k1, k2, k3, k4, k5, k6, _⟩ := hk; have rb1048576 := hR 1048576; have rb1048577 := hR 1048577; have rb1048578 := hR 1048578; have rb1048579 := hR 1048579; have rb1048580 := hR 1048580; have rb1048582 := hR 1048582; exact entOrV (k := .u32) (a := 0) (b := (R 1048582)) (c := (R 1048582)) rfl rfl rfl (by have h := join_u32 0 (R 1048582) 8 256 (by decide) (by omega) (by first | omega | (simp only [sumVal, oct.sumF, oct.F, oct.ws]; omega)) (by first | omega | (simp only [sumVal, oct.sumF, oct.F, oct.ws]; omega)) (by first | omega | (simp only [sumVal, oct.sumF, oct.F, oct.ws]; omega)); simpa using h)
def ArpDecodesRow10e4 : Ent := .bin .shl (.chan (some 2)) (.int .u64 8) (.chan (some 3))
theorem ArpDecodesRow10e4_ok (w : World) (R : Nat → Int) (hR : ∀ j, 0 ≤ R j ∧ R j ≤ 255) (A0 : Addr) (n0 cp0 : Nat) (w0 : RowIn R 1048576 w A0 n0 cp0) (hn : n0 ≤ 70000) (hm : 1 ≤ n0) (hk : ArpDecodesRow10K R n0) : @EntOK (ArpDecodesRow10V R hR n0) Try.prog ArpDecodesRow10e4 := by
  letI : Env := (ArpDecodesRow10V R hR n0)
  obtain ⟨k0, k1, k2, k3, k4, k5, k6, _⟩ := hk; have rb1048576 := hR 1048576; have rb1048577 := hR 1048577; have rb1048578 := hR 1048578; have rb1048579 := hR 1048579; have rb1048580 := hR 1048580; have rb1048582 := hR 1048582; exact entShlV (k := .u32) (l := .u64) (a := (R 1048582)) (c := ((R 1048582) * 256)) (s := 8) rfl rfl rfl (by decide) (by show IntKind.u32.wrap ((R 1048582) * 2 ^ 8) = ((R 1048582) * 256); rw [show ((2 : Int) ^ 8) = 256 from by decide, IntWalk.u32_in _ (by first | omega | (simp only [sumVal, oct.sumF, oct.F, oct.ws]; omega))])
def ArpDecodesRow10e5 : Ent := .conv .u32 (.chan (some 1048583)) (.chan (some 4))
theorem ArpDecodesRow10e5_ok (w : World) (R : Nat → Int) (hR : ∀ j, 0 ≤ R j ∧ R j ≤ 255) (A0 : Addr) (n0 cp0 : Nat) (w0 : RowIn R 1048576 w A0 n0 cp0) (hn : n0 ≤ 70000) (hm : 1 ≤ n0) (hk : ArpDecodesRow10K R n0) : @EntOK (ArpDecodesRow10V R hR n0) Try.prog ArpDecodesRow10e5 := by
  letI : Env := (ArpDecodesRow10V R hR n0)
  obtain ⟨k0, k1, k2, k3, k4, k5, k6, _⟩ := hk; have rb1048576 := hR 1048576; have rb1048577 := hR 1048577; have rb1048578 := hR 1048578; have rb1048579 := hR 1048579; have rb1048580 := hR 1048580; have rb1048583 := hR 1048583; exact entConvV (k := .u32) (l := .u8) (a := (R 1048583)) (c := (R 1048583)) rfl rfl (by rw [IntWalk.u32_in _ (by first | omega | (simp only [sumVal, oct.sumF, oct.F, oct.ws]; omega))])
def ArpDecodesRow10e6 : Ent := .bin .or (.chan (some 3)) (.chan (some 4)) (.chan (some 5))
theorem ArpDecodesRow10e6_ok (w : World) (R : Nat → Int) (hR : ∀ j, 0 ≤ R j ∧ R j ≤ 255) (A0 : Addr) (n0 cp0 : Nat) (w0 : RowIn R 1048576 w A0 n0 cp0) (hn : n0 ≤ 70000) (hm : 1 ≤ n0) (hk : ArpDecodesRow10K R n0) : @EntOK (ArpDecodesRow10V R hR n0) Try.prog ArpDecodesRow10e6 := by
  letI : Env := (ArpDecodesRow10V R hR n0)
  obtain ⟨k0, k1, k2, k3, k4, k5, k6, _⟩ := hk; have rb1048576 := hR 1048576; have rb1048577 := hR 1048577; have rb1048578 := hR 1048578; have rb1048579 := hR 1048579; have rb1048580 := hR 1048580; have rb1048582 := hR 1048582; have rb1048583 := hR 1048583; exact entOrV (k := .u32) (a := ((R 1048582) * 256)) (b := (R 1048583)) (c := (((R 1048582) * 256) + (R 1048583))) rfl rfl rfl (by exact join_u32 (R 1048582) (R 1048583) 8 256 (by decide) (by first | omega | (simp only [sumVal, oct.sumF, oct.F, oct.ws]; omega)) (by first | omega | (simp only [sumVal, oct.sumF, oct.F, oct.ws]; omega)) (by first | omega | (simp only [sumVal, oct.sumF, oct.F, oct.ws]; omega)) (by first | omega | (simp only [sumVal, oct.sumF, oct.F, oct.ws]; omega)))
def ArpDecodesRow10e7 : Ent := .conv .i64 (.chan (some 5)) (.chan (some 6))
theorem ArpDecodesRow10e7_ok (w : World) (R : Nat → Int) (hR : ∀ j, 0 ≤ R j ∧ R j ≤ 255) (A0 : Addr) (n0 cp0 : Nat) (w0 : RowIn R 1048576 w A0 n0 cp0) (hn : n0 ≤ 70000) (hm : 1 ≤ n0) (hk : ArpDecodesRow10K R n0) : @EntOK (ArpDecodesRow10V R hR n0) Try.prog ArpDecodesRow10e7 := by
  letI : Env := (ArpDecodesRow10V R hR n0)
  obtain ⟨k0, k1, k2, k3, k4, k5, k6, _⟩ := hk; have rb1048576 := hR 1048576; have rb1048577 := hR 1048577; have rb1048578 := hR 1048578; have rb1048579 := hR 1048579; have rb1048580 := hR 1048580; have rb1048582 := hR 1048582; have rb1048583 := hR 1048583; exact entConvV (k := .i64) (l := .u32) (a := (((R 1048582) * 256) + (R 1048583))) (c := (((R 1048582) * 256) + (R 1048583))) rfl rfl (by rw [IntWalk.i64_in _ (by first | omega | (simp only [sumVal, oct.sumF, oct.F, oct.ws]; omega))])
def ArpDecodesRow10e8 : Ent := .bin .eql (.chan (some 1048576)) (.int .u8 0) (.bool true)
theorem ArpDecodesRow10e8_ok (w : World) (R : Nat → Int) (hR : ∀ j, 0 ≤ R j ∧ R j ≤ 255) (A0 : Addr) (n0 cp0 : Nat) (w0 : RowIn R 1048576 w A0 n0 cp0) (hn : n0 ≤ 70000) (hm : 1 ≤ n0) (hk : ArpDecodesRow10K R n0) : @EntOK (ArpDecodesRow10V R hR n0) Try.prog ArpDecodesRow10e8 := by
  letI : Env := (ArpDecodesRow10V R hR n0)
  obtain ⟨k0, k1, k2, k3, k4, k5, k6, _⟩ := hk; have rb1048576 := hR 1048576; have rb1048577 := hR 1048577; have rb1048578 := hR 1048578; have rb1048579 := hR 1048579; have rb1048580 := hR 1048580; exact entCmp (k := .u8) (a := (R 1048576)) (b := 0) rfl rfl (by show some (((R 1048576) : Int) == 0) = some true; rw [beq_iff_eq.2 (by first | omega | (simp only [sumVal, oct.sumF, oct.F, oct.ws]; omega))])
def ArpDecodesRow10e9 : Ent := .bin .eql (.chan (some 1048577)) (.int .u8 1) (.bool true)
theorem ArpDecodesRow10e9_ok (w : World) (R : Nat → Int) (hR : ∀ j, 0 ≤ R j ∧ R j ≤ 255) (A0 : Addr) (n0 cp0 : Nat) (w0 : RowIn R 1048576 w A0 n0 cp0) (hn : n0 ≤ 70000) (hm : 1 ≤ n0) (hk : ArpDecodesRow10K R n0) : @EntOK (ArpDecodesRow10V R hR n0) Try.prog ArpDecodesRow10e9 := by
  letI : Env := (ArpDecodesRow10V R hR n0)
  obtain ⟨k0, k1, k2, k3, k4, k5, k6, _⟩ := hk; have rb1048576 := hR 1048576; have rb1048577 := hR 1048577; have rb1048578 := hR 1048578; have rb1048579 := hR 1048579; have rb1048580 := hR 1048580; exact entCmp (k := .u8) (a := (R 1048577)) (b := 1) rfl rfl (by show some (((R 1048577) : Int) == 1) = some true; rw [beq_iff_eq.2 (by first | omega | (simp only [sumVal, oct.sumF, oct.F, oct.ws]; omega))])
def ArpDecodesRow10e10 : Ent := .bin .eql (.chan (some 1048578)) (.int .u8 8) (.bool true)
theorem ArpDecodesRow10e10_ok (w : World) (R : Nat → Int) (hR : ∀ j, 0 ≤ R j ∧ R j ≤ 255) (A0 : Addr) (n0 cp0 : Nat) (w0 : RowIn R 1048576 w A0 n0 cp0) (hn : n0 ≤ 70000) (hm : 1 ≤ n0) (hk : ArpDecodesRow10K R n0) : @EntOK (ArpDecodesRow10V R hR n0) Try.prog ArpDecodesRow10e10 := by
  letI : Env := (ArpDecodesRow10V R hR n0)
  obtain ⟨k0, k1, k2, k3, k4, k5, k6, _⟩ := hk; have rb1048576 := hR 1048576; have rb1048577 := hR 1048577; have rb1048578 := hR 1048578; have rb1048579 := hR 1048579; have rb1048580 := hR 1048580; exact entCmp (k := .u8) (a := (R 1048578)) (b := 8) rfl rfl (by show some (((R 1048578) : Int) == 8) = some true; rw [beq_iff_eq.2 (by first | omega | (simp only [sumVal, oct.sumF, oct.F, oct.ws]; omega))])
def ArpDecodesRow10e11 : Ent := .bin .eql (.chan (some 1048579)) (.int .u8 0) (.bool true)
theorem ArpDecodesRow10e11_ok (w : World) (R : Nat → Int) (hR : ∀ j, 0 ≤ R j ∧ R j ≤ 255) (A0 : Addr) (n0 cp0 : Nat) (w0 : RowIn R 1048576 w A0 n0 cp0) (hn : n0 ≤ 70000) (hm : 1 ≤ n0) (hk : ArpDecodesRow10K R n0) : @EntOK (ArpDecodesRow10V R hR n0) Try.prog ArpDecodesRow10e11 := by
  letI : Env := (ArpDecodesRow10V R hR n0)
  obtain ⟨k0, k1, k2, k3, k4, k5, k6, _⟩ := hk; have rb1048576 := hR 1048576; have rb1048577 := hR 1048577; have rb1048578 := hR 1048578; have rb1048579 := hR 1048579; have rb1048580 := hR 1048580; exact entCmp (k := .u8) (a := (R 1048579)) (b := 0) rfl rfl (by show some (((R 1048579) : Int) == 0) = some true; rw [beq_iff_eq.2 (by first | omega | (simp only [sumVal, oct.sumF, oct.F, oct.ws]; omega))])
def ArpDecodesRow10e12 : Ent := .bin .eql (.chan (some 1048580)) (.int .u8 6) (.bool false)
theorem ArpDecodesRow10e12_ok (w : World) (R : Nat → Int) (hR : ∀ j, 0 ≤ R j ∧ R j ≤ 255) (A0 : Addr) (n0 cp0 : Nat) (w0 : RowIn R 1048576 w A0 n0 cp0) (hn : n0 ≤ 70000) (hm : 1 ≤ n0) (hk : ArpDecodesRow10K R n0) : @EntOK (ArpDecodesRow10V R hR n0) Try.prog ArpDecodesRow10e12 := by
  letI : Env := (ArpDecodesRow10V R hR n0)
  obtain ⟨k0, k1, k2, k3, k4, k5, k6, _⟩ := hk; have rb1048576 := hR 1048576; have rb1048577 := hR 1048577; have rb1048578 := hR 1048578; have rb1048579 := hR 1048579; have rb1048580 := hR 1048580; exact entCmp (k := .u8) (a := (R 1048580)) (b := 6) rfl rfl (by show some (((R 1048580) : Int) == 6) = some false; rw [beq_eq_false_iff_ne.2 (by first | omega | (simp only [sumVal, oct.sumF, oct.F, oct.ws]; omega))])
def ArpDecodesRow10e13 : Ent := .bin .neq (.chan (some 1048576)) (.int .u8 0) (.bool false)
theorem ArpDecodesRow10e13_ok (w : World) (R : Nat → Int) (hR : ∀ j, 0 ≤ R j ∧ R j ≤ 255) (A0 : Addr) (n0 cp0 : Nat) (w0 : RowIn R 1048576 w A0 n0 cp0) (hn : n0 ≤ 70000) (hm : 1 ≤ n0) (hk : ArpDecodesRow10K R n0) : @EntOK (ArpDecodesRow10V R hR n0) Try.prog ArpDecodesRow10e13 := by
  letI : Env := (ArpDecodesRow10V R hR n0)
  obtain ⟨k0, k1, k2, k3, k4, k5, k6, _⟩ := hk; have rb1048576 := hR 1048576; have rb1048577 := hR 1048577; have rb1048578 := hR 1048578; have rb1048579 := hR 1048579; have rb1048580 := hR 1048580; exact entCmp (k := .u8) (a := (R 1048576)) (b := 0) rfl rfl (by show some (((R 1048576) : Int) != 0) = some false; rw [bne_eq_false_iff_eq.2 (by first | omega | (simp only [sumVal, oct.sumF, oct.F, oct.ws]; omega))])
def ArpDecodesRow10e14 : Ent := .bin .neq (.chan (some 1048577)) (.int .u8 1) (.bool false)
theorem ArpDecodesRow10e14_ok (w : World) (R : Nat → Int) (hR : ∀ j, 0 ≤ R j ∧ R j ≤ 255) (A0 : Addr) (n0 cp0 : Nat) (w0 : RowIn R 1048576 w A0 n0 cp0) (hn : n0 ≤ 70000) (hm : 1 ≤ n0) (hk : ArpDecodesRow10K R n0) : @EntOK (ArpDecodesRow10V R hR n0) Try.prog ArpDecodesRow10e14 := by
  letI : Env := (ArpDecodesRow10V R hR n0)
  obtain ⟨k0, k1, k2, k3, k4, k5, k6, _⟩ := hk; have rb1048576 := hR 1048576; have rb1048577 := hR 1048577; have rb1048578 := hR 1048578; have rb1048579 := hR 1048579; have rb1048580 := hR 1048580; exact entCmp (k := .u8) (a := (R 1048577)) (b := 1) rfl rfl (by show some (((R 1048577) : Int) != 1) = some false; rw [bne_eq_false_iff_eq.2 (by first | omega | (simp only [sumVal, oct.sumF, oct.F, oct.ws]; omega))])
def ArpDecodesRow10e15 : Ent := .bin .neq (.chan (some 1048578)) (.int .u8 8) (.bool false)
theorem ArpDecodesRow10e15_ok (w : World) (R : Nat → Int) (hR : ∀ j, 0 ≤ R j ∧ R j ≤ 255) (A0 : Addr) (n0 cp0 : Nat) (w0 : RowIn R 1048576 w A0 n0 cp0) (hn : n0 ≤ 70000) (hm : 1 ≤ n0) (hk : ArpDecodesRow10K R n0) : @EntOK (ArpDecodesRow10V R hR n0) Try.prog ArpDecodesRow10e15 := by
  letI : Env := (ArpDecodesRow10V R hR n0)
  obtain ⟨k0, k1, k2, k3, k4, k5, k6, _⟩ := hk; have rb1048576 := hR 1048576; have rb1048577 := hR 1048577; have rb1048578 := hR 1048578; have rb1048579 := hR 1048579; have rb1048580 := hR 1048580; exact entCmp (k := .u8) (a := (R 1048578)) (b := 8) rfl rfl (by show some (((R 1048578) : Int) != 8) = some false; rw [bne_eq_false_iff_eq.2 (by first | omega | (simp only [sumVal, oct.sumF, oct.F, oct.ws]; omega))])
def ArpDecodesRow10e16 : Ent := .bin .neq (.chan (some 1048579)) (.int .u8 0) (.bool false)
theorem ArpDecodesRow10e16_ok (w : World) (R : Nat → Int) (hR : ∀ j, 0 ≤ R j ∧ R j ≤ 255) (A0 : Addr) (n0 cp0 : Nat) (w0 : RowIn R 1048576 w A0 n0 cp0) (hn : n0 ≤ 70000) (hm : 1 ≤ n0) (hk : ArpDecodesRow10K R n0) : @EntOK (ArpDecodesRow10V R hR n0) Try.prog ArpDecodesRow10e16 := by
  letI : Env := (ArpDecodesRow10V R hR n0)
  obtain ⟨k0, k1, k2, k3, k4, k5, k6, _⟩ := hk; have rb1048576 := hR 1048576; have rb1048577 := hR 1048577; have rb1048578 := hR 1048578; have rb1048579 := hR 1048579; have rb1048580 := hR 1048580; exact entCmp (k := .u8) (a := (R 1048579)) (b := 0) rfl rfl (by show some (((R 1048579) : Int) != 0) = some false; rw [bne_eq_false_iff_eq.2 (by first | omega | (simp only [sumVal, oct.sumF, oct.F, oct.ws]; omega))])
def ArpDecodesRow10e17 : Ent := .bin .neq (.chan (some 1048580)) (.int .u8 6) (.bool true)
theorem ArpDecodesRow10e17_ok (w : World) (R : Nat → Int) (hR : ∀ j, 0 ≤ R j ∧ R j ≤ 255) (A0 : Addr) (n0 cp0 : Nat) (w0 : RowIn R 1048576 w A0 n0 cp0) (hn : n0 ≤ 70000) (hm : 1 ≤ n0) (hk : ArpDecodesRow10K R n0) : @EntOK (ArpDecodesRow10V R hR n0) Try.prog ArpDecodesRow10e17 := by
  letI : Env := (ArpDecodesRow10V R hR n0)
  obtain ⟨k0, k1, k2, k3, k4, k5, k6, _⟩ := hk; have rb1048576 := hR 1048576; have rb1048577 := hR 1048577; have rb1048578 := hR 1048578; have rb1048579 := hR 1048579; have rb1048580 := hR 1048580; exact entCmp (k := .u8) (a := (R 1048580)) (b := 6) rfl rfl (by show some (((R 1048580) : Int) != 6) = some true; rw [bne_iff_ne.2 (by first | omega | (simp only [sumVal, oct.sumF, oct.F, oct.ws]; omega))])
set_option maxHeartbeats 4000000 in
theorem ArpDecodesRow10 (w : World) (R : Nat → Int) (hR : ∀ j, 0 ≤ R j ∧ R j ≤ 255) (A0 : Addr) (n0 cp0 : Nat) (w0 : RowIn R 1048576 w A0 n0 cp0) (hn : n0 ≤ 70000) (hm : 1 ≤ n0) (k0 : ¬ ((n0 : Int) > 4000)) (k1 : ¬ ((n0 : Int) < 28)) (k2 : (R 1048576) = 0) (k3 : (R 1048577) = 1) (k4 : (R 1048578) = 8) (k5 : (R 1048579) = 0) (k6 : ¬ ((R 1048580) = 6)) : Calls Try.prog 4 #[.slice (some A0) n0 cp0] w (fun e w' => e = .returned (.bool true) ∧ Only [] w w') := by
  letI : Env := (ArpDecodesRow10V R hR n0)
  have hk : ArpDecodesRow10K R n0 := ⟨k0, k1, k2, k3, k4, k5, k6, trivial⟩
  have hents : ∀ e ∈ ([ArpDecodesRow10e0, ArpDecodesRow10e1, ArpDecodesRow10e2, ArpDecodesRow10e3, ArpDecodesRow10e4, ArpDecodesRow10e5, ArpDecodesRow10e6, ArpDecodesRow10e7, ArpDecodesRow10e8, ArpDecodesRow10e9, ArpDecodesRow10e10, ArpDecodesRow10e11, ArpDecodesRow10e12, ArpDecodesRow10e13, ArpDecodesRow10e14, ArpDecodesRow10e15, ArpDecodesRow10e16, ArpDecodesRow10e17] : List Ent), EntOK Try.prog e := (allECons (ArpDecodesRow10e0_ok w R hR A0 n0 cp0 w0 hn hm hk) (allECons (ArpDecodesRow10e1_ok w R hR A0 n0 cp0 w0 hn hm hk) (allECons (ArpDecodesRow10e2_ok w R hR A0 n0 cp0 w0 hn hm hk) (allECons (ArpDecodesRow10e3_ok w R hR A0 n0 cp0 w0 hn hm hk) (allECons (ArpDecodesRow10e4_ok w R hR A0 n0 cp0 w0 hn hm hk) (allECons (ArpDecodesRow10e5_ok w R hR A0 n0 cp0 w0 hn hm hk) (allECons (ArpDecodesRow10e6_ok w R hR A0 n0 cp0 w0 hn hm hk) (allECons (ArpDecodesRow10e7_ok w R hR A0 n0 cp0 w0 hn hm hk) (allECons (ArpDecodesRow10e8_ok w R hR A0 n0 cp0 w0 hn hm hk) (allECons (ArpDecodesRow10e9_ok w R hR A0 n0 cp0 w0 hn hm hk) (allECons (ArpDecodesRow10e10_ok w R hR A0 n0 cp0 w0 hn hm hk) (allECons (ArpDecodesRow10e11_ok w R hR A0 n0 cp0 w0 hn hm hk) (allECons (ArpDecodesRow10e12_ok w R hR A0 n0 cp0 w0 hn hm hk) (allECons (ArpDecodesRow10e13_ok w R hR A0 n0 cp0 w0 hn hm hk) (allECons (ArpDecodesRow10e14_ok w R hR A0 n0 cp0 w0 hn hm hk) (allECons (ArpDecodesRow10e15_ok w R hR A0 n0 cp0 w0 hn hm hk) (allECons (ArpDecodesRow10e16_ok w R hR A0 n0 cp0 w0 hn hm hk) (allECons (ArpDecodesRow10e17_ok w R hR A0 n0 cp0 w0 hn hm hk) allENil))))))))))))))))))
  have hsp : SpOK Try.prog (spTwo (spHelp ⟨14, 16, 19, 5⟩ [0]) (spTwo (spBeq 36 [ArpDecodesRow10e0, ArpDecodesRow10e1, ArpDecodesRow10e2, ArpDecodesRow10e3, ArpDecodesRow10e4, ArpDecodesRow10e5, ArpDecodesRow10e6, ArpDecodesRow10e7, ArpDecodesRow10e8, ArpDecodesRow10e9, ArpDecodesRow10e10, ArpDecodesRow10e11, ArpDecodesRow10e12, ArpDecodesRow10e13, ArpDecodesRow10e14, ArpDecodesRow10e15, ArpDecodesRow10e16, ArpDecodesRow10e17]) (spKnown 15))) := (spTwo_ok (spHelp_ok helpC (by
    intro q hq
    simp only [List.mem_cons, List.not_mem_nil, or_false] at hq
    subst hq
    rw [lenOf_eq (n := n0) rfl]; omega)) (spTwo_ok (spBeq_ok beqC hents) (spKnown_ok knownBody known)))
  refine lawR (tab := tabG Try.prog [ArpDecodesRow10e0, ArpDecodesRow10e1, ArpDecodesRow10e2, ArpDecodesRow10e3, ArpDecodesRow10e4, ArpDecodesRow10e5, ArpDecodesRow10e6, ArpDecodesRow10e7, ArpDecodesRow10e8, ArpDecodesRow10e9, ArpDecodesRow10e10, ArpDecodesRow10e11, ArpDecodesRow10e12, ArpDecodesRow10e13, ArpDecodesRow10e14, ArpDecodesRow10e15, ArpDecodesRow10e16, ArpDecodesRow10e17]) (sp := (spTwo (spHelp ⟨14, 16, 19, 5⟩ [0]) (spTwo (spBeq 36 [ArpDecodesRow10e0, ArpDecodesRow10e1, ArpDecodesRow10e2, ArpDecodesRow10e3, ArpDecodesRow10e4, ArpDecodesRow10e5, ArpDecodesRow10e6, ArpDecodesRow10e7, ArpDecodesRow10e8, ArpDecodesRow10e9, ArpDecodesRow10e10, ArpDecodesRow10e11, ArpDecodesRow10e12, ArpDecodesRow10e13, ArpDecodesRow10e14, ArpDecodesRow10e15, ArpDecodesRow10e16, ArpDecodesRow10e17]) (spKnown 15)))) hsp (tabG_ok hents) (f := 300) (args := [.slice (some ⟨0, 0, some 1⟩) 28 0]) (args' := [.slice (some A0) n0 cp0]) (c0 := 1) (h0 := mem1 (rowAo 1048576 0 28 5)) (β0 := mp1 (rowIm A0 n0)) (w := w) (by kernel_rfl) (sim1 rfl w0.lt (rowIn_ob w0 (by decide) rfl (by omega))) (fun i hi => ?_) ?_
  · match i, hi with
    | i + 1, _ => rfl
  · exact (PW.cons (rowIn_vr (m := 28) w0 rfl (by omega) (by omega) rfl) (PW.nil _))
abbrev ArpDecodesRow11V (R : Nat → Int) (hR : ∀ j, 0 ≤ R j ∧ R j ≤ 255) (n0 : Nat) : Env := envR [.int .i64 (n0 : Int), .int .u32 (R 1048582), .int .u32 (R 1048582), .int .u32 ((R 1048582) * 256), .int .u32 (R 1048583), .int .u32 (((R 1048582) * 256) + (R 1048583)), .int .i64 (((R 1048582) * 256) + (R 1048583))] R hR
def ArpDecodesRow11K (R : Nat → Int) (n0 : Nat) : Prop := (¬ ((n0 : Int) > 4000)) ∧ (¬ ((n0 : Int) < 28)) ∧ ((R 1048576) = 0) ∧ ((R 1048577) = 1) ∧ ((R 1048578) = 8) ∧ ((R 1048579) = 0) ∧ ((R 1048580) = 6) ∧ (¬ ((R 1048581) = 4)) ∧ True
def ArpDecodesRow11e0 : Ent := .bin .gtr (.chan (some 0)) (.int .i64 4000) (.bool false)
theorem ArpDecodesRow11e0_ok (w : World) (R : Nat → Int) (hR : ∀ j, 0 ≤ R j ∧ R j ≤ 255) (A0 : Addr) (n0 cp0 : Nat) (w0 : RowIn R 1048576 w A0 n0 cp0) (hn : n0 ≤ 70000) (hm : 1 ≤ n0) (hk : ArpDecodesRow11K R n0) : @EntOK (ArpDecodesRow11V R hR n0) Try.prog ArpDecodesRow11e0 := by
  letI : Env := (ArpDecodesRow11V R hR n0)
  obtain ⟨k0, k1, k2, k3, k4, k5, k6, k7, _⟩ := hk; have rb1048576 := hR 1048576; have rb1048577 := hR 1048577; have rb1048578 := hR 1048578; have rb1048579 := hR 1048579; have rb1048580 := hR 1048580; have rb1048581 := hR 1048581; exact entCmp (k := .i64) (a := (n0 : Int)) (b := 4000) rfl rfl (by show some (decide (((n0 : Int) : Int) > 4000)) = some false; rw [decide_eq_false (by first | omega | (simp only [sumVal, oct.sumF, oct.F, oct.ws]; omega))])
def ArpDecodesRow11e1 : Ent := .bin .lss (.chan (some 0)) (.int .i64 28) (.bool false)
theorem ArpDecodesRow11e1_ok (w : World) (R : Nat → Int) (hR : ∀ j, 0 ≤ R j ∧ R j ≤ 255) (A0 : Addr) (n0 cp0 : Nat) (w0 : RowIn R 1048576 w A0 n0 cp0) (hn : n0 ≤ 70000) (hm : 1 ≤ n0) (hk : ArpDecodesRow11K R n0) : @EntOK (ArpDecodesRow11V R hR n0) Try.prog ArpDecodesRow11e1 := by
  letI : Env := (ArpDecodesRow11V R hR n0)
  obtain ⟨k0, k1, k2, k3, k4, k5, k6, k7, _⟩ := hk; have rb1048576 := hR 1048576; have rb1048577 := hR 1048577; have rb1048578 := hR 1048578; have rb1048579 := hR 1048579; have rb1048580 := hR 1048580; have rb1048581 := hR 1048581; exact entCmp (k := .i64) (a := (n0 : Int)) (b := 28) rfl rfl (by show some (decide (((n0 : Int) : Int) < 28)) = some false; rw [decide_eq_false (by first | omega | (simp only [sumVal, oct.sumF, oct.F, oct.ws]; omega))])
def ArpDecodesRow11e2 : Ent := .conv .u32 (.chan (some 1048582)) (.chan (some 1))
theorem ArpDecodesRow11e2_ok (w : World) (R : Nat → Int) (hR : ∀ j, 0 ≤ R j ∧ R j ≤ 255) (A0 : Addr) (n0 cp0 : Nat) (w0 : RowIn R 1048576 w A0 n0 cp0) (hn : n0 ≤ 70000) (hm : 1 ≤ n0) (hk : ArpDecodesRow11K R n0) : @EntOK (ArpDecodesRow11V R hR n0) Try.prog ArpDecodesRow11e2 := by
  letI : Env := (ArpDecodesRow11V R hR n0)
  obtain ⟨k0, k1, k2, k3, k4, k5, k6, k7, _⟩ := hk; have rb1048576 := hR 1048576; have rb1048577 := hR 1048577; have rb1048578 := hR 1048578; have rb1048579 := hR 1048579; have rb1048580 := hR 1048580; have rb1048581 := hR 1048581; have rb1048582 := hR 1048582; exact entConvV (k := .u32) (l := .u8) (a := (R 1048582)) (c := (R 1048582)) rfl rfl (by rw [IntWalk.u32_in _ (by first | omega | (simp only [sumVal, oct.sumF, oct.F, oct.ws]; omega))])
def ArpDecodesRow11e3 : Ent := .bin .or (.int .u32 0) (.chan (some 1)) (.chan (some 2))
theorem ArpDecodesRow11e3_ok (w : World) (R : Nat → Int) (hR : ∀ j, 0 ≤ R j ∧ R j ≤ 255) (A0 : Addr) (n0 cp0 : Nat) (w0 : RowIn R 1048576 w A0 n0 cp0) (hn : n0 ≤ 70000) (hm : 1 ≤ n0) (hk : ArpDecodesRow11K R n0) : @EntOK (ArpDecodesRow11V R hR n0) Try.prog ArpDecodesRow11e3 := by
  letI : Env := (ArpDecodesRow11V R hR n0)
  obtain ⟨k0, k1, k2, k3, k4, k5, k6, k7, _⟩ := hk; have rb1048576 := hR 1048576; have rb1048577 := hR 1048577; have rb1048578 := hR 1048578; have rb1048579 := hR 1048579; have rb1048580 := hR 1048580; have rb1048581 := hR 1048581; have rb1048582 := hR 1048582; exact entOrV (k := .u32) (a := 0) (b := (R 1048582)) (c := (R 1048582)) rfl rfl rfl (by have h := join_u32 0 (R 1048582) 8 256 (by decide) (by omega) (by first | omega | (simp only [sumVal, oct.sumF, oct.F, oct.ws]; omega)) (by first | omega | (simp only [sumVal, oct.sumF, oct.F, oct.ws]; omega)) (by first | omega | (simp only [sumVal, oct.sumF, oct.F, oct.ws]; omega)); simpa using h)
def ArpDecodesRow11e4 : Ent := .bin .shl (.chan (some 2)) (.int .u64 8) (.chan (some 3))
theorem ArpDecodesRow11e4_ok (w : World) (R : Nat → Int) (hR : ∀ j, 0 ≤ R j ∧ R j ≤ 255) (A0 : Addr) (n0 cp0 : Nat) (w0 : RowIn R 1048576 w A0 n0 cp0) (hn : n0 ≤ 70000) (hm : 1 ≤ n0) (hk : ArpDecodesRow11K R n0) : @EntOK (ArpDecodesRow11V R hR n0) Try.prog ArpDecodesRow11e4 := by
  letI : Env := (ArpDecodesRow11V R hR n0)
  obtain ⟨k0, k1, k2, k3, k4, k5, k6, k7, _⟩ := hk; have rb1048576 := hR 1048576; have rb1048577 := hR 1048577; have rb1048578 := hR 1048578; have rb1048579 := hR 1048579; have rb1048580 := hR 1048580; have rb1048581 := hR 1048581; have rb1048582 := hR 1048582; exact entShlV (k := .u32) (l := .u64) (a := (R 1048582)) (c := ((R 1048582) * 256)) (s := 8) rfl rfl rfl (by decide) (by show IntKind.u32.wrap ((R 1048582) * 2 ^ 8) = ((R 1048582) * 256); rw [show ((2 : Int) ^ 8) = 256 from by decide, IntWalk.u32_in _ (by first | omega | (simp only [sumVal, oct.sumF, oct.F, oct.ws]; omega))])
def ArpDecodesRow11e5 : Ent := .conv .u32 (.chan (some 1048583)) (.chan (some 4))
theorem ArpDecodesRow11e5_ok (w : World) (R : Nat → Int) (hR : ∀ j, 0 ≤ R j ∧ R j ≤ 255) (A0 : Addr) (n0 cp0 : Nat) (w0 : RowIn R 1048576 w A0 n0 cp0) (hn : n0 ≤ 70000) (hm : 1 ≤ n0) (hk : ArpDecodesRow11K R n0) : @EntOK (ArpDecodesRow11V R hR n0) Try.prog ArpDecodesRow11e5 := by
  letI : Env := (ArpDecodesRow11V R hR n0)
  obtain ⟨k0, k1, k2, k3, k4, k5, k6, k7, _⟩ := hk; have rb1048576 := hR 1048576; have rb1048577 := hR 1048577; have rb1048578 := hR 1048578; have rb1048579 := hR 1048579; have rb1048580 := hR 1048580; have rb1048581 := hR 1048581; have rb1048583 := hR 1048583; exact entConvV (k := .u32) (l := .u8) (a := (R 1048583)) (c := (R 1048583)) rfl rfl (by rw [IntWalk.u32_in _ (by first | omega | (simp only [sumVal, oct.sumF, oct.F, oct.ws]; omega))])
def ArpDecodesRow11e6 : Ent := .bin .or (.chan (some 3)) (.chan (some 4)) (.chan (some 5))
theorem ArpDecodesRow11e6_ok (w : World) (R : Nat → Int) (hR : ∀ j, 0 ≤ R j ∧ R j ≤ 255) (A0 : Addr) (n0 cp0 : Nat) (w0 : RowIn R 1048576 w A0 n0 cp0) (hn : n0 ≤ 70000) (hm : 1 ≤ n0) (hk : ArpDecodesRow11K R n0) : @EntOK (ArpDecodesRow11V R hR n0) Try.prog ArpDecodesRow11e6 := by
  letI : Env := (ArpDecodesRow11V R hR n0)
  obtain ⟨k0, k1, k2, k3, k4, k5, k6, k7, _⟩ := hk; have rb1048576 := hR 1048576; have rb1048577 := hR 1048577; have rb1048578 := hR 1048578; have rb1048579 := hR 1048579; have rb1048580 := hR 1048580; have rb1048581 := hR 1048581; have rb1048582 := hR 1048582; have rb1048583 := hR 1048583; exact entOrV (k := .u32) (a := ((R 1048582) * 256)) (b := (R 1048583)) (c := (((R 1048582) * 256) + (R 1048583))) rfl rfl rfl (by exact join_u32 (R 1048582) (R 1048583) 8 256 (by decide) (by first | omega | (simp only [sumVal, oct.sumF, oct.F, oct.ws]; omega)) (by first | omega | (simp only [sumVal, oct.sumF, oct.F, oct.ws]; omega)) (by first | omega | (simp only [sumVal, oct.sumF, oct.F, oct.ws]; omega)) (by first | omega | (simp only [sumVal, oct.sumF, oct.F, oct.ws]; omega)))
def ArpDecodesRow11e7 : Ent := .conv .i64 (.chan (some 5)) (.chan (some 6))
theorem ArpDecodesRow11e7_ok (w : World) (R : Nat → Int) (hR : ∀ j, 0 ≤ R j ∧ R j ≤ 255) (A0 : Addr) (n0 cp0 : Nat) (w0 : RowIn R 1048576 w A0 n0 cp0) (hn : n0 ≤ 70000) (hm : 1 ≤ n0) (hk : ArpDecodesRow11K R n0) : @EntOK (ArpDecodesRow11V R hR n0) Try.prog ArpDecodesRow11e7 := by
  letI : Env := (ArpDecodesRow11V R hR n0)
  obtain ⟨k0, k1, k2, k3, k4, k5, k6, k7, _⟩ := hk; have rb1048576 := hR 1048576; have rb1048577 := hR 1048577; have rb1048578 := hR 1048578; have rb1048579 := hR 1048579; have rb1048580 := hR 1048580; have rb1048581 := hR 1048581; have rb1048582 := hR 1048582; have rb1048583 := hR 1048583; exact entConvV (k := .i64) (l := .u32) (a := (((R 1048582) * 256) + (R 1048583))) (c := (((R 1048582) * 256) + (R 1048583))) rfl rfl (by rw [IntWalk.i64_in _ (by first | omega | (simp only [sumVal, oct.sumF, oct.F, oct.ws]; omega))])
def ArpDecodesRow11e8 : Ent := .bin .eql (.chan (some 1048576)) (.int .u8 0) (.bool true)
theorem ArpDecodesRow11e8_ok (w : World) (R : Nat → Int) (hR : ∀ j, 0 ≤ R j ∧ R j ≤ 255) (A0 : Addr) (n0 cp0 : Nat) (w0 : RowIn R 1048576 w A0 n0 cp0) (hn : n0 ≤ 70000) (hm : 1 ≤ n0) (hk : ArpDecodesRow11K R n0) : @EntOK (ArpDecodesRow11V R hR n0) Try.prog ArpDecodesRow11e8 := by
  letI : Env := (ArpDecodesRow11V R hR n0)
  obtain ⟨k0, k1, k2, k3, k4, k5, k6, k7, _⟩ := hk; have rb1048576 := hR 1048576; have rb1048577 := hR 1048577; have rb1048578 := hR 1048578; have rb1048579 := hR 1048579; have rb1048580 := hR 1048580; have rb1048581 := hR 1048581; exact entCmp (k := .u8) (a := (R 1048576)) (b := 0) rfl rfl (by show some (((R 1048576) : Int) == 0) = some true; rw [beq_iff_eq.2 (by first | omega | (simp only [sumVal, oct.sumF, oct.F, oct.ws]; omega))])
def ArpDecodesRow11e9 : Ent := .bin .eql (.chan (some 1048577)) (.int .u8 1) (.bool true)
theorem ArpDecodesRow11e9_ok (w : World) (R : Nat → Int) (hR : ∀ j, 0 ≤ R j ∧ R j ≤ 255) (A0 : Addr) (n0 cp0 : Nat) (w0 : RowIn R 1048576 w A0 n0 cp0) (hn : n0 ≤ 70000) (hm : 1 ≤ n0) (hk : ArpDecodesRow11K R n0) : @EntOK (ArpDecodesRow11V R hR n0) Try.prog ArpDecodesRow11e9 := by
  letI : Env := (ArpDecodesRow11V R hR n0)
  obtain ⟨k0, k1, k2, k3, k4, k5, k6, k7, _⟩ := hk; have rb1048576 := hR 1048576; have rb1048577 := hR 1048577; have rb1048578 := hR 1048578; have rb1048579 := hR 1048579; have rb1048580 := hR 1048580; have rb1048581 := hR 1048581; exact entCmp (k := .u8) (a := (R 1048577)) (b := 1) rfl rfl (by show some (((R 1048577) : Int) == 1) = some true; rw [beq_iff_eq.2 (by first | omega | (simp only [sumVal, oct.sumF, oct.F, oct.ws]; omega))])
def ArpDecodesRow11e10 : Ent := .bin .eql (.chan (some 1048578)) (.int .u8 8) (.bool true)
theorem ArpDecodesRow11e10_ok (w : World) (R : Nat → Int) (hR : ∀ j, 0 ≤ R j ∧ R j ≤ 255) (A0 : Addr) (n0 cp0 : Nat) (w0 : RowIn R 1048576 w A0 n0 cp0) (hn : n0 ≤ 70000) (hm : 1 ≤ n0) (hk : ArpDecodesRow11K R n0) : @EntOK (ArpDecodesRow11V R hR n0) Try.prog ArpDecodesRow11e10 := by
  letI : Env := (ArpDecodesRow11V R hR n0)
  obtain ⟨k0, k1, k2, k3, k4, k5, k6, k7, _⟩ := hk; have rb1048576 := hR 1048576; have rb1048577 := hR 1048577; have rb1048578 := hR 1048578; have rb1048579 := hR 1048579; have rb1048580 := hR 1048580; have rb1048581 := hR 1048581; exact entCmp (k := .u8) (a := (R 1048578)) (b := 8) rfl rfl (by show some (((R 1048578) : Int) == 8) = some true; rw [beq_iff_eq.2 (by first | omega | (simp only [sumVal, oct.sumF, oct.F, oct.ws]; omega))])
def ArpDecodesRow11e11 : Ent := .bin .eql (.chan (some 1048579)) (.int .u8 0) (.bool true)
theorem ArpDecodesRow11e11_ok (w : World) (R : Nat → Int) (hR : ∀ j, 0 ≤ R j ∧ R j ≤ 255) (A0 : Addr) (n0 cp0 : Nat) (w0 : RowIn R 1048576 w A0 n0 cp0) (hn : n0 ≤ 70000) (hm : 1 ≤ n0) (hk : ArpDecodesRow11K R n0) : @EntOK (ArpDecodesRow11V R hR n0) Try.prog ArpDecodesRow11e11 := by
  letI : Env := (ArpDecodesRow11V R hR n0)
  obtain ⟨k0, k1, k2, k3, k4, k5, k6, k7, _⟩ := hk; have rb1048576 := hR 1048576; have rb1048577 := hR 1048577; have rb1048578 := hR 1048578; have rb1048579 := hR 1048579; have rb1048580 := hR 1048580; have rb1048581 := hR 1048581; exact entCmp (k := .u8) (a := (R 1048579)) (b := 0) rfl rfl (by show some (((R 1048579) : Int) == 0) = some true; rw [beq_iff_eq.2 (by first | omega | (simp only [sumVal, oct.sumF, oct.F, oct.ws]; omega))])
def ArpDecodesRow11e12 : Ent := .bin .eql (.chan (some 1048580)) (.int .u8 6) (.bool true)
theorem ArpDecodesRow11e12_ok (w : World) (R : Nat → Int) (hR : ∀ j, 0 ≤ R j ∧ R j ≤ 255) (A0 : Addr) (n0 cp0 : Nat) (w0 : RowIn R 1048576 w A0 n0 cp0) (hn : n0 ≤ 70000) (hm : 1 ≤ n0) (hk : ArpDecodesRow11K R n0) : @EntOK (ArpDecodesRow11V R hR n0) Try.prog ArpDecodesRow11e12 := by
  letI : Env := (ArpDecodesRow11V R hR n0)
  obtain ⟨k0, k1, k2, k3, k4, k5, k6, k7, _⟩ := hk; have rb1048576 := hR 1048576; have rb1048577 := hR 1048577; have rb1048578 := hR 1048578; have rb1048579 := hR 1048579; have rb1048580 := hR 1048580; have rb1048581 := hR 1048581; exact entCmp (k := .u8) (a := (R 1048580)) (b := 6) rfl rfl (by show some (((R 1048580) : Int) == 6) = some true; rw [beq_iff_eq.2 (by first | omega | (simp only [sumVal, oct.sumF, oct.F, oct.ws]; omega))])
def ArpDecodesRow11e13 : Ent := .bin .eql (.chan (some 1048581)) (.int .u8 4) (.bool false)
theorem ArpDecodesRow11e13_ok (w : World) (R : Nat → Int) (hR : ∀ j, 0 ≤ R j ∧ R j ≤ 255) (A0 : Addr) (n0 cp0 : Nat) (w0 : RowIn R 1048576 w A0 n0 cp0) (hn : n0 ≤ 70000) (hm : 1 ≤ n0) (hk : ArpDecodesRow11K R n0) : @EntOK (ArpDecodesRow11V R hR n0) Try.prog ArpDecodesRow11e13 := by
  letI : Env := (ArpDecodesRow11V R hR n0)
  obtain ⟨k0, k1, k2, k3, k4, k5, k6, k7, _⟩ := hk; have rb1048576 := hR 1048576; have rb1048577 := hR 1048577; have rb1048578 := hR 1048578; have rb1048579 := hR 1048579; have rb1048580 := hR 1048580; have rb1048581 := hR 1048581; exact entCmp (k := .u8) (a := (R 1048581)) (b := 4) rfl rfl (by show some (((R 1048581) : Int) == 4) = some false; rw [beq_eq_false_iff_ne.2 (by first | omega | (simp only [sumVal, oct.sumF, oct.F, oct.ws]; omega))])
def ArpDecodesRow11e14 : Ent := .bin .neq (.chan (some 1048576)) (.int .u8 0) (.bool false)
theorem ArpDecodesRow11e14_ok (w : World) (R : Nat → Int) (hR : ∀ j, 0 ≤ R j ∧ R j ≤ 255) (A0 : Addr) (n0 cp0 : Nat) (w0 : RowIn R 1048576 w A0 n0 cp0) (hn : n0 ≤ 70000) (hm : 1 ≤ n0) (hk : ArpDecodesRow11K R n0) : @EntOK (ArpDecodesRow11V R hR n0) Try.prog ArpDecodesRow11e14 := by
  letI : Env := (ArpDecodesRow11V R hR n0)
  obtain ⟨k0, k1, k2, k3, k4, k5, k6, k7, _⟩ := hk; have rb1048576 := hR 1048576; have rb1048577 := hR 1048577; have rb1048578 := hR 1048578; have rb1048579 := hR 1048579; have rb1048580 := hR 1048580; have rb1048581 := hR 1048581; exact entCmp (k := .u8) (a := (R 1048576)) (b := 0) rfl rfl (by show some (((R 1048576) : Int) != 0) = some false; rw [bne_eq_false_iff_eq.2 (by first | omega | (simp only [sumVal, oct.sumF, oct.F, oct.ws]; omega))])
def ArpDecodesRow11e15 : Ent := .bin .neq (.chan (some 1048577)) (.int .u8 1) (.bool false)
theorem ArpDecodesRow11e15_ok (w : World) (R : Nat → Int) (hR : ∀ j, 0 ≤ R j ∧ R j ≤ 255) (A0 : Addr) (n0 cp0 : Nat) (w0 : RowIn R 1048576 w A0 n0 cp0) (hn : n0 ≤ 70000) (hm : 1 ≤ n0) (hk : ArpDecodesRow11K R n0) : @EntOK (ArpDecodesRow11V R hR n0) Try.prog ArpDecodesRow11e15 := by
  letI : Env := (ArpDecodesRow11V R hR n0)
  obtain ⟨k0, k1, k2, k3, k4, k5, k6, k7, _⟩ := hk; have rb1048576 := hR 1048576; have rb1048577 := hR 1048577; have rb1048578 := hR 1048578; have rb1048579 := hR 1048579; have rb1048580 := hR 1048580; have rb1048581 := hR 1048581; exact entCmp (k := .u8) (a := (R 1048577)) (b := 1) rfl rfl (by show some (((R 1048577) : Int) != 1) = some false; rw [bne_eq_false_iff_eq.2 (by first | omega | (simp only [sumVal, oct.sumF, oct.F, oct.ws]; omega))])
def ArpDecodesRow11e16 : Ent := .bin .neq (.chan (some 1048578)) (.int .u8 8) (.bool false)
theorem ArpDecodesRow11e16_ok (w : World) (R : Nat → Int) (hR : ∀ j, 0 ≤ R j ∧ R j ≤ 255) (A0 : Addr) (n0 cp0 : Nat) (w0 : RowIn R 1048576 w A0 n0 cp0) (hn : n0 ≤ 70000) (hm : 1 ≤ n0) (hk : ArpDecodesRow11K R n0) : @EntOK (ArpDecodesRow11V R hR n0) Try.prog ArpDecodesRow11e16 := by
  letI : Env := (ArpDecodesRow11V R hR n0)
  obtain ⟨k0, k1, k2, k3, k4, k5, k6, k7, _⟩ := hk; have rb1048576 := hR 1048576; have rb1048577 := hR 1048577; have rb1048578 := hR 1048578; have rb1048579 := hR 1048579; have rb1048580 := hR 1048580; have rb1048581 := hR 1048581; exact entCmp (k := .u8) (a := (R 1048578)) (b := 8) rfl rfl (by show some (((R 1048578) : Int) != 8) = some false; rw [bne_eq_false_iff_eq.2 (by first | omega | (simp only [sumVal, oct.sumF, oct.F, oct.ws]; omega))])
def ArpDecodesRow11e17 : Ent := .bin .neq (.chan (some 1048579)) (.int .u8 0) (.bool false)
theorem ArpDecodesRow11e17_ok (w : World) (R : Nat → Int) (hR : ∀ j, 0 ≤ R j ∧ R j ≤ 255) (A0 : Addr) (n0 cp0 : Nat) (w0 : RowIn R 1048576 w A0 n0 cp0) (hn : n0 ≤ 70000) (hm : 1 ≤ n0) (hk : ArpDecodesRow11K R n0) : @EntOK (ArpDecodesRow11V R hR n0) Try.prog ArpDecodesRow11e17 := by
  letI : Env := (ArpDecodesRow11V R hR n0)
  obtain ⟨k0, k1, k2, k3, k4, k5, k6, k7, _⟩ := hk; have rb1048576 := hR 1048576; have rb1048577 := hR 1048577; have rb1048578 := hR 1048578; have rb1048579 := hR 1048579; have rb1048580 := hR 1048580; have rb1048581 := hR 1048581; exact entCmp (k := .u8) (a := (R 1048579)) (b := 0) rfl rfl (by show some (((R 1048579) : Int) != 0) = some false; rw [bne_eq_false_iff_eq.2 (by first | omega | (simp only [sumVal, oct.sumF, oct.F, oct.ws]; omega))])
def ArpDecodesRow11e18 : Ent := .bin .neq (.chan (some 1048580)) (.int .u8 6) (.bool false)
theorem ArpDecodesRow11e18_ok (w : World) (R : Nat → Int) (hR : ∀ j, 0 ≤ R j ∧ R j ≤ 255) (A0 : Addr) (n0 cp0 : Nat) (w0 : RowIn R 1048576 w A0 n0 cp0) (hn : n0 ≤ 70000) (hm : 1 ≤ n0) (hk : ArpDecodesRow11K R n0) : @EntOK (ArpDecodesRow11V R hR n0) Try.prog ArpDecodesRow11e18 := by
  letI : Env := (ArpDecodesRow11V R hR n0)
  obtain ⟨k0, k1, k2, k3, k4, k5, k6, k7, _⟩ := hk; have rb1048576 := hR 1048576; have rb1048577 := hR 1048577; have rb1048578 := hR 1048578; have rb1048579 := hR 1048579; have rb1048580 := hR 1048580; have rb1048581 := hR 1048581; exact entCmp (k := .u8) (a := (R 1048580)) (b := 6) rfl rfl (by show some (((R 1048580) : Int) != 6) = some false; rw [bne_eq_false_iff_eq.2 (by first | omega | (simp only [sumVal, oct.sumF, oct.F, oct.ws]; omega))])
def ArpDecodesRow11e19 : Ent := .bin .neq (.chan (some 1048581)) (.int .u8 4) (.bool true)
theorem ArpDecodesRow11e19_ok (w : World) (R : Nat → Int) (hR : ∀ j, 0 ≤ R j ∧ R j ≤ 255) (A0 : Addr) (n0 cp0 : Nat) (w0 : RowIn R 1048576 w A0 n0 cp0) (hn : n0 ≤ 70000) (hm : 1 ≤ n0) (hk : ArpDecodesRow11K R n0) : @EntOK (ArpDecodesRow11V R hR n0) Try.prog ArpDecodesRow11e19 := by
  letI : Env := (ArpDecodesRow11V R hR n0)
  obtain ⟨k0, k1, k2, k3, k4, k5, k6, k7, _⟩ := hk; have rb1048576 := hR 1048576; have rb1048577 := hR 1048577; have rb1048578 := hR 1048578; have rb1048579 := hR 1048579; have rb1048580 := hR 1048580; have rb1048581 := hR 1048581; exact entCmp (k := .u8) (a := (R 1048581)) (b := 4) rfl rfl (by show some (((R 1048581) : Int) != 4) = some true; rw [bne_iff_ne.2 (by first | omega | (simp only [sumVal, oct.sumF, oct.F, oct.ws]; omega))])
set_option maxHeartbeats 4000000 in
theorem ArpDecodesRow11 (w : World) (R : Nat → Int) (hR : ∀ j, 0 ≤ R j ∧ R j ≤ 255) (A0 : Addr) (n0 cp0 : Nat) (w0 : RowIn R 1048576 w A0 n0 cp0) (hn : n0 ≤ 70000) (hm : 1 ≤ n0) (k0 : ¬ ((n0 : Int) > 4000)) (k1 : ¬ ((n0 : Int) < 28)) (k2 : (R 1048576) = 0) (k3 : (R 1048577) = 1) (k4 : (R 1048578) = 8) (k5 : (R 1048579) = 0) (k6 : (R 1048580) = 6) (k7 : ¬ ((R 1048581) = 4)) : Calls Try.prog 4 #[.slice (some A0) n0 cp0] w (fun e w' => e = .returned (.bool true) ∧ Only [] w w') := by
  letI : Env := (ArpDecodesRow11V R hR n0)
  have hk : ArpDecodesRow11K R n0 := ⟨k0, k1, k2, k3, k4, k5, k6, k7, trivial⟩
  have hents : ∀ e ∈ ([ArpDecodesRow11e0, ArpDecodesRow11e1, ArpDecodesRow11e2, ArpDecodesRow11e3, ArpDecodesRow11e4, ArpDecodesRow11e5, ArpDecodesRow11e6, ArpDecodesRow11e7, ArpDecodesRow11e8, ArpDecodesRow11e9, ArpDecodesRow11e10, ArpDecodesRow11e11, ArpDecodesRow11e12, ArpDecodesRow11e13, ArpDecodesRow11e14, ArpDecodesRow11e15, ArpDecodesRow11e16, ArpDecodesRow11e17, ArpDecodesRow11e18, ArpDecodesRow11e19] : List Ent), EntOK Try.prog e := (allECons (ArpDecodesRow11e0_ok w R hR A0 n0 cp0 w0 hn hm hk) (allECons (ArpDecodesRow11e1_ok w R hR A0 n0 cp0 w0 hn hm hk) (allECons (ArpDecodesRow11e2_ok w R hR A0 n0 cp0 w0 hn hm hk) (allECons (ArpDecodesRow11e3_ok w R hR A0 n0 cp0 w0 hn hm hk) (allECons (ArpDecodesRow11e4_ok w R hR A0 n0 cp0 w0 hn hm hk) (allECons (ArpDecodesRow11e5_ok w R hR A0 n0 cp0 w0 hn hm hk) (allECons (ArpDecodesRow11e6_ok w R hR A0 n0 cp0 w0 hn hm hk) (allECons (ArpDecodesRow11e7_ok w R hR A0 n0 cp0 w0 hn hm hk) (allECons (ArpDecodesRow11e8_ok w R hR A0 n0 cp0 w0 hn hm hk) (allECons (ArpDecodesRow11e9_ok w R hR A0 n0 cp0 w0 hn hm hk) (allECons (ArpDecodesRow11e10_ok w R hR A0 n0 cp0 w0 hn hm hk) (allECons (ArpDecodesRow11e11_ok w R hR A0 n0 cp0 w0 hn hm hk) (allECons (ArpDecodesRow11e12_ok w R hR A0 n0 cp0 w0 hn hm hk) (allECons (ArpDecodesRow11e13_ok w R hR A0 n0 cp0 w0 hn hm hk) (allECons (ArpDecodesRow11e14_ok w R hR A0 n0 cp0 w0 hn hm hk) (allECons (ArpDecodesRow11e15_ok w R hR A0 n0 cp0 w0 hn hm hk) (allECons (ArpDecodesRow11e16_ok w R hR A0 n0 cp0 w0 hn hm hk) (allECons (ArpDecodesRow11e17_ok w R hR A0 n0 cp0 w0 hn hm hk) (allECons (ArpDecodesRow11e18_ok w R hR A0 n0 cp0 w0 hn hm hk) (allECons (ArpDecodesRow11e19_ok w R hR A0 n0 cp0 w0 hn hm hk) allENil))))))))))))))))))))
  have hsp : SpOK Try.prog (spTwo (spHelp ⟨14, 16, 19, 5⟩ [0]) (spTwo (spBeq 36 [ArpDecodesRow11e0, ArpDecodesRow11e1, ArpDecodesRow11e2, ArpDecodesRow11e3, ArpDecodesRow11e4, ArpDecodesRow11e5, ArpDecodesRow11e6, ArpDecodesRow11e7, ArpDecodesRow11e8, ArpDecodesRow11e9, ArpDecodesRow11e10, ArpDecodesRow11e11, ArpDecodesRow11e12, ArpDecodesRow11e13, ArpDecodesRow11e14, ArpDecodesRow11e15, ArpDecodesRow11e16, ArpDecodesRow11e17, ArpDecodesRow11e18, ArpDecodesRow11e19]) (spKnown 15))) := (spTwo_ok (spHelp_ok helpC (by
    intro q hq
    simp only [List.mem_cons, List.not_mem_nil, or_false] at hq
    subst hq
    rw [lenOf_eq (n := n0) rfl]; omega)) (spTwo_ok (spBeq_ok beqC hents) (spKnown_ok knownBody known)))
  refine lawR (tab := tabG Try.prog [ArpDecodesRow11e0, ArpDecodesRow11e1, ArpDecodesRow11e2, ArpDecodesRow11e3, ArpDecodesRow11e4, ArpDecodesRow11e5, ArpDecodesRow11e6, ArpDecodesRow11e7, ArpDecodesRow11e8, ArpDecodesRow11e9, ArpDecodesRow11e10, ArpDecodesRow11e11, ArpDecodesRow11e12, ArpDecodesRow11e13, ArpDecodesRow11e14, ArpDecodesRow11e15, ArpDecodesRow11e16, ArpDecodesRow11e17, ArpDecodesRow11e18, ArpDecodesRow11e19]) (sp := (spTwo (spHelp ⟨14, 16, 19, 5⟩ [0]) (spTwo (spBeq 36 [ArpDecodesRow11e0, ArpDecodesRow11e1, ArpDecodesRow11e2, ArpDecodesRow11e3, ArpDecodesRow11e4, ArpDecodesRow11e5, ArpDecodesRow11e6, ArpDecodesRow11e7, ArpDecodesRow11e8, ArpDecodesRow11e9, ArpDecodesRow11e10, ArpDecodesRow11e11, ArpDecodesRow11e12, ArpDecodesRow11e13, ArpDecodesRow11e14, ArpDecodesRow11e15, ArpDecodesRow11e16, ArpDecodesRow11e17, ArpDecodesRow11e18, ArpDecodesRow11e19]) (spKnown 15)))) hsp (tabG_ok hents) (f := 300) (args := [.slice (some ⟨0, 0, some 1⟩) 28 0]) (args' := [.slice (some A0) n0 cp0]) (c0 := 1) (h0 := mem1 (rowAo 1048576 0 28 5)) (β0 := mp1 (rowIm A0 n0)) (w := w) (by kernel_rfl) (sim1 rfl w0.lt (rowIn_ob w0 (by decide) rfl (by omega))) (fun i hi => ?_) ?_
  · match i, hi with
    | i + 1, _ => rfl
  · exact (PW.cons (rowIn_vr (m := 28) w0 rfl (by omega) (by omega) rfl) (PW.nil _))
theorem ArpDecodesRow (w : World) (R : Nat → Int) (hR : ∀ j, 0 ≤ R j ∧ R j ≤ 255) (A0 : Addr) (n0 cp0 : Nat) (w0 : RowIn R 1048576 w A0 n0 cp0) (hn : n0 ≤ 70000) (hm : 1 ≤ n0) : Calls Try.prog 4 #[.slice (some A0) n0 cp0] w (fun e w' => e = .returned (.bool true) ∧ Only [] w w') := by
  have rb1048576 := hR 1048576
  have rb1048577 := hR 1048577
  have rb1048578 := hR 1048578
  have rb1048579 := hR 1048579
  have rb1048580 := hR 1048580
  have rb1048581 := hR 1048581
  have rb1048582 := hR 1048582
  have rb1048583 := hR 1048583
  by_cases h1 : (n0 : Int) > 4000
  ·
    exact ArpDecodesRow0 w R hR A0 n0 cp0 w0 hn hm h1
  ·
    by_cases h2 : (n0 : Int) < 28
    ·
      exact ArpDecodesRow1 w R hR A0 n0 cp0 w0 hn hm h1 h2
    ·
      by_cases h3 : (R 1048576) = 0
      ·
        by_cases h4 : (R 1048577) = 1
        ·
          by_cases h5 : (R 1048578) = 8
          ·
            by_cases h6 : (R 1048579) = 0
            ·
              by_cases h7 : (R 1048580) = 6
              ·
                by_cases h8 : (R 1048581) = 4
                ·
                  by_cases h9 : (((R 1048582) * 256) + (R 1048583)) = 1
                  ·
                    by_cases h10 : (R 1048582) = 0
                    ·
                      by_cases h11 : (R 1048583) = 1
                      ·
                        exact ArpDecodesRow2 w R hR A0 n0 cp0 w0 hn hm h1 h2 h3 h4 h5 h6 h7 h8 h9 h10 h11
                      ·
                        exfalso; omega
                    ·
                      exfalso; omega
                  ·
                    by_cases h10 : (((R 1048582) * 256) + (R 1048583)) = 2
                    ·
                      by_cases h11 : (R 1048582) = 0
                      ·
                        by_cases h12 : (R 1048583) = 1
                        ·
                          exfalso; omega
                        ·
                          by_cases h13 : (R 1048583) = 2
                          ·
                            exact ArpDecodesRow3 w R hR A0 n0 cp0 w0 hn hm h1 h2 h3 h4 h5 h6 h7 h8 h9 h10 h11 h12 h13
                          ·
                            exfalso; omega
                      ·
                        exfalso; omega
                    ·
                      by_cases h11 : (R 1048582) = 0
                      ·
                        by_cases h12 : (R 1048583) = 1
                        ·
                          exfalso; omega
                        ·
                          by_cases h13 : (R 1048583) = 2
                          ·
                            exfalso; omega
                          ·
                            exact ArpDecodesRow4 w R hR A0 n0 cp0 w0 hn hm h1 h2 h3 h4 h5 h6 h7 h8 h9 h10 h11 h12 h13
                      ·
                        exact ArpDecodesRow5 w R hR A0 n0 cp0 w0 hn hm h1 h2 h3 h4 h5 h6 h7 h8 h9 h10 h11
                ·
                  exact ArpDecodesRow11 w R hR A0 n0 cp0 w0 hn hm h1 h2 h3 h4 h5 h6 h7 h8
              ·
                exact ArpDecodesRow10 w R hR A0 n0 cp0 w0 hn hm h1 h2 h3 h4 h5 h6 h7
            ·
              exact ArpDecodesRow9 w R hR A0 n0 cp0 w0 hn hm h1 h2 h3 h4 h5 h6
          ·
            exact ArpDecodesRow8 w R hR A0 n0 cp0 w0 hn hm h1 h2 h3 h4 h5
        ·
          exact ArpDecodesRow7 w R hR A0 n0 cp0 w0 hn hm h1 h2 h3 h4
      ·
        exact ArpDecodesRow6 w R hR A0 n0 cp0 w0 hn hm h1 h2 h3
abbrev ArpDecodesNil0V (R : Nat → Int) (hR : ∀ j, 0 ≤ R j ∧ R j ≤ 255)  : Env := envR [] R hR
def ArpDecodesNil0K (R : Nat → Int)  : Prop := True
set_option maxHeartbeats 4000000 in
theorem ArpDecodesNil0 (w : World) (R : Nat → Int) (hR : ∀ j, 0 ≤ R j ∧ R j ≤ 255)   : Calls Try.prog 4 #[.slice none 0 0] w (fun e w' => e = .returned (.bool true) ∧ Only [] w w') := by
  letI : Env := (ArpDecodesNil0V R hR )
  have hk : ArpDecodesNil0K R  := trivial
  have hents : ∀ e ∈ ([] : List Ent), EntOK Try.prog e := allENil
  have hsp : SpOK Try.prog (spTwo (spBeq 36 []) (spKnown 15)) := (spTwo_ok (spBeq_ok beqC hents) (spKnown_ok knownBody known))
  refine lawR (tab := tabG Try.prog []) (sp := (spTwo (spBeq 36 []) (spKnown 15))) hsp (tabG_ok hents) (f := 300) (args := [.slice none 0 0]) (args' := [.slice none 0 0]) (c0 := 0) (h0 := .lf) (β0 := fun _ => none) (w := w) (by kernel_rfl) (Sim.nothing Try.prog w.heap.size w) (fun i hi => ?_) ?_
  · rfl
  · exact (PW.cons (VR.of_flat 6 _ rfl) (PW.nil _))
theorem ArpDecodesNil (w : World) (R : Nat → Int) (hR : ∀ j, 0 ≤ R j ∧ R j ≤ 255)  : Calls Try.prog 4 #[.slice none 0 0] w (fun e w' => e = .returned (.bool true) ∧ Only [] w w') := by
  exact ArpDecodesNil0 w R hR  
abbrev ArpDecodesEmp0V (R : Nat → Int) (hR : ∀ j, 0 ≤ R j ∧ R j ≤ 255)  : Env := envR [] R hR
def ArpDecodesEmp0K (R : Nat → Int)  : Prop := True
set_option maxHeartbeats 4000000 in
theorem ArpDecodesEmp0 (w : World) (R : Nat → Int) (hR : ∀ j, 0 ≤ R j ∧ R j ≤ 255) (A0 : Addr) (cp0 : Nat) (hs : A0.spot = none ∨ cp0 = 0)  : Calls Try.prog 4 #[.slice (some A0) 0 cp0] w (fun e w' => e = .returned (.bool true) ∧ Only [] w w') := by
  letI : Env := (ArpDecodesEmp0V R hR )
  have hk : ArpDecodesEmp0K R  := trivial
  have hents : ∀ e ∈ ([] : List Ent), EntOK Try.prog e := allENil
  have hsp : SpOK Try.prog (spTwo (spBeq 36 []) (spKnown 15)) := (spTwo_ok (spBeq_ok beqC hents) (spKnown_ok knownBody known))
  refine lawR (tab := tabG Try.prog []) (sp := (spTwo (spBeq 36 []) (spKnown 15))) hsp (tabG_ok hents) (f := 300) (args := [.slice (some ⟨0, 0, some 0⟩) 0 0]) (args' := [.slice (some A0) 0 cp0]) (c0 := 1) (h0 := .lf) (β0 := mp1 ⟨A0.block, A0.off, 0, 0, 1⟩) (w := w) (by kernel_rfl) (⟨fun i o hi => (by rw [Tr.get_lf] at hi; cases hi), fun i j o o' I J hi => (by rw [Tr.get_lf] at hi; cases hi)⟩) (fun i hi => ?_) ?_
  · match i, hi with
    | i + 1, _ => rfl
  · exact (PW.cons (rowNone_vr rfl hs) (PW.nil _))
theorem ArpDecodesEmp (w : World) (R : Nat → Int) (hR : ∀ j, 0 ≤ R j ∧ R j ≤ 255) (A0 : Addr) (cp0 : Nat) (hs : A0.spot = none ∨ cp0 = 0) : Calls Try.prog 4 #[.slice (some A0) 0 cp0] w (fun e w' => e = .returned (.bool true) ∧ Only [] w w') := by
  exact ArpDecodesEmp0 w R hR A0 cp0 hs 
abbrev ArpDecodesBig0V (R : Nat → Int) (hR : ∀ j, 0 ≤ R j ∧ R j ≤ 255) (A0 : Option Addr) (n0 cp0 : Nat) : Env := envR [.slice A0 n0 cp0, .int .i64 (n0 : Int)] R hR
def ArpDecodesBig0K (R : Nat → Int) (A0 : Option Addr) (n0 cp0 : Nat) : Prop := ((n0 : Int) > 4000) ∧ True
def ArpDecodesBig0e0 : Ent := .len false (.chan (some 1000)) (.chan (some 1))
theorem ArpDecodesBig0e0_ok (w : World) (R : Nat → Int) (hR : ∀ j, 0 ≤ R j ∧ R j ≤ 255) (A0 : Option Addr) (n0 cp0 : Nat) (hn : 4000 < n0) (hk : ArpDecodesBig0K R A0 n0 cp0) : @EntOK (ArpDecodesBig0V R hR A0 n0 cp0) Try.prog ArpDecodesBig0e0 := by
  letI : Env := (ArpDecodesBig0V R hR A0 n0 cp0)
  obtain ⟨k0, _⟩ := hk; exact entLen (i := 1000) (j := 1) rfl rfl
def ArpDecodesBig0e1 : Ent := .bin .gtr (.chan (some 1)) (.int .i64 4000) (.bool true)
theorem ArpDecodesBig0e1_ok (w : World) (R : Nat → Int) (hR : ∀ j, 0 ≤ R j ∧ R j ≤ 255) (A0 : Option Addr) (n0 cp0 : Nat) (hn : 4000 < n0) (hk : ArpDecodesBig0K R A0 n0 cp0) : @EntOK (ArpDecodesBig0V R hR A0 n0 cp0) Try.prog ArpDecodesBig0e1 := by
  letI : Env := (ArpDecodesBig0V R hR A0 n0 cp0)
  obtain ⟨k0, _⟩ := hk; exact entCmp (k := .i64) (a := (n0 : Int)) (b := 4000) rfl rfl (by show some (decide (((n0 : Int) : Int) > 4000)) = some true; rw [decide_eq_true (by first | omega | (simp only [sumVal, oct.sumF, oct.F, oct.ws]; omega))])
set_option maxHeartbeats 4000000 in
theorem ArpDecodesBig0 (w : World) (R : Nat → Int) (hR : ∀ j, 0 ≤ R j ∧ R j ≤ 255) (A0 : Option Addr) (n0 cp0 : Nat) (hn : 4000 < n0) (k0 : (n0 : Int) > 4000) : Calls Try.prog 4 #[.slice A0 n0 cp0] w (fun e w' => e = .returned (.bool true) ∧ Only [] w w') := by
  letI : Env := (ArpDecodesBig0V R hR A0 n0 cp0)
  have hk : ArpDecodesBig0K R A0 n0 cp0 := ⟨k0, trivial⟩
  have hents : ∀ e ∈ ([ArpDecodesBig0e0, ArpDecodesBig0e1] : List Ent), EntOK Try.prog e := (allECons (ArpDecodesBig0e0_ok w R hR A0 n0 cp0 hn hk) (allECons (ArpDecodesBig0e1_ok w R hR A0 n0 cp0 hn hk) allENil))
  have hsp : SpOK Try.prog (spTwo (spBeq 36 [ArpDecodesBig0e0, ArpDecodesBig0e1]) (spKnown 15)) := (spTwo_ok (spBeq_ok beqC hents) (spKnown_ok knownBody known))
  refine lawR (tab := tabG Try.prog [ArpDecodesBig0e0, ArpDecodesBig0e1]) (sp := (spTwo (spBeq 36 [ArpDecodesBig0e0, ArpDecodesBig0e1]) (spKnown 15))) hsp (tabG_ok hents) (f := 300) (args := [.chan (some 1000)]) (args' := [.slice A0 n0 cp0]) (c0 := 0) (h0 := .lf) (β0 := fun _ => none) (w := w) (by kernel_rfl) (Sim.nothing Try.prog w.heap.size w) (fun i hi => ?_) ?_
  · rfl
  · exact (PW.cons (.opq 1000 rfl (fun b h => by cases h)) (PW.nil _))
theorem ArpDecodesBig (w : World) (R : Nat → Int) (hR : ∀ j, 0 ≤ R j ∧ R j ≤ 255) (A0 : Option Addr) (n0 cp0 : Nat) (hn : 4000 < n0) : Calls Try.prog 4 #[.slice A0 n0 cp0] w (fun e w' => e = .returned (.bool true) ∧ Only [] w w') := by
  by_cases h1 : (n0 : Int) > 4000
  ·
    exact ArpDecodesBig0 w R hR A0 n0 cp0 hn h1
  ·
    exfalso; omega
theorem ArpDecodesAll (w : World) (a0 : Option Addr) (len0 cap0 : Nat) (z0 : List Int) (h0 : IsRow .u8 w a0 len0 cap0 z0)  : Calls Try.prog 4 #[.slice a0 len0 cap0] w (fun e w' => e = .returned (.bool true) ∧ Only [] w w') := by
  by_cases hb : 4000 < len0
  · exact ArpDecodesBig w (fun _ => 0) (fun _ => ⟨by decide, by decide⟩) a0 len0 cap0 hb 
  cases a0 with
  | none =>
    rcases h0 with ⟨_, rfl, rfl, _⟩ | ⟨x, hx, _⟩
    · exact ArpDecodesNil w (fun _ => 0) (fun _ => ⟨by decide, by decide⟩) 
    · cases hx
  | some A =>
    by_cases hz : len0 = 0
    · subst hz
      exact ArpDecodesEmp w (fun _ => 0) (fun _ => ⟨by decide, by decide⟩) A cap0 (isRow_spot h0) 
    · exact ArpDecodesRow w (rowR 1048576 z0) (rowR_bd (isRow_wf h0)) A len0 cap0 (rowIn_of h0 (by omega) (fun j hj => by unfold rowR; rw [Nat.add_sub_cancel_left])) (by omega) (by omega) 
end Go.Proofs.Ytojechkpkjlgkaa.ev
