/-
  The table: each entry with its proof. Conditions: none.
-/
import Derived.Test.YtpcbpbclcldnmaaGreatEvHWfE
import Derived.KernelRfl
import Derived.DeepKeys
namespace Go.Proofs.YtpcbpbclcldnmaaGreat.ev
set_option maxRecDepth 1000000
set_option linter.unusedVariables false
set_option linter.unusedSimpArgs false
theorem HWfe0_0_ok (port : Int) (hp0 : -9223372036854775808 ≤ port) (hp1 : port ≤ 9223372036854775807) (hc : HWfK0 port) : @EntOK (env (HWfv0 port)) Tryz.prog HWfe0_0 := by
  letI : Env := (env (HWfv0 port))
  obtain ⟨c0, _⟩ := hc
  exact entCmp (k := .i64) (a := port) (b := 1) rfl rfl (by show some (decide ((port : Int) < 1)) = some true; rw [decide_eq_true (by first | omega | (simp only [sumVal, oct.sumF, oct.F, oct.ws]; omega) | (simp only [sumVal, oct.sumF, oct.F, oct.ws] at *; omega))])
theorem HWfe1_0_ok (port : Int) (hp0 : -9223372036854775808 ≤ port) (hp1 : port ≤ 9223372036854775807) (hc : HWfK1 port) : @EntOK (env (HWfv1 port)) Tryz.prog HWfe1_0 := by
  letI : Env := (env (HWfv1 port))
  obtain ⟨c0, c1, _⟩ := hc
  exact entCmp (k := .i64) (a := port) (b := 1) rfl rfl (by show some (decide ((port : Int) < 1)) = some false; rw [decide_eq_false (by first | omega | (simp only [sumVal, oct.sumF, oct.F, oct.ws]; omega) | (simp only [sumVal, oct.sumF, oct.F, oct.ws] at *; omega))])
theorem HWfe1_1_ok (port : Int) (hp0 : -9223372036854775808 ≤ port) (hp1 : port ≤ 9223372036854775807) (hc : HWfK1 port) : @EntOK (env (HWfv1 port)) Tryz.prog HWfe1_1 := by
  letI : Env := (env (HWfv1 port))
  obtain ⟨c0, c1, _⟩ := hc
  exact entCmp (k := .i64) (a := port) (b := 65535) rfl rfl (by show some (decide ((port : Int) > 65535)) = some true; rw [decide_eq_true (by first | omega | (simp only [sumVal, oct.sumF, oct.F, oct.ws]; omega) | (simp only [sumVal, oct.sumF, oct.F, oct.ws] at *; omega))])
theorem HWfe2_0_ok (port : Int) (hp0 : -9223372036854775808 ≤ port) (hp1 : port ≤ 9223372036854775807) (hc : HWfK2 port) : @EntOK (env (HWfv2 port)) Tryz.prog HWfe2_0 := by
  letI : Env := (env (HWfv2 port))
  obtain ⟨c0, c1, _⟩ := hc
  exact entCmp (k := .i64) (a := port) (b := 1) rfl rfl (by show some (decide ((port : Int) < 1)) = some false; rw [decide_eq_false (by first | omega | (simp only [sumVal, oct.sumF, oct.F, oct.ws]; omega) | (simp only [sumVal, oct.sumF, oct.F, oct.ws] at *; omega))])
theorem HWfe2_1_ok (port : Int) (hp0 : -9223372036854775808 ≤ port) (hp1 : port ≤ 9223372036854775807) (hc : HWfK2 port) : @EntOK (env (HWfv2 port)) Tryz.prog HWfe2_1 := by
  letI : Env := (env (HWfv2 port))
  obtain ⟨c0, c1, _⟩ := hc
  exact entCmp (k := .i64) (a := port) (b := 65535) rfl rfl (by show some (decide ((port : Int) > 65535)) = some false; rw [decide_eq_false (by first | omega | (simp only [sumVal, oct.sumF, oct.F, oct.ws]; omega) | (simp only [sumVal, oct.sumF, oct.F, oct.ws] at *; omega))])
end Go.Proofs.YtpcbpbclcldnmaaGreat.ev
