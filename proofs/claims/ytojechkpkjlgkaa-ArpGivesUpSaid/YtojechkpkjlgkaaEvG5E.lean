/-
  The table: each entry with its proof. Conditions: none.
-/
import Derived.Test.YtojechkpkjlgkaaEvG5Da
import Derived.Test.YtojechkpkjlgkaaEvV
import Derived.Test.YtojechkpkjlgkaaEvBd
namespace Go.Proofs.Ytojechkpkjlgkaa.ev
set_option maxRecDepth 1000000
set_option linter.unusedVariables false
set_option linter.unusedSimpArgs false
abbrev G5v0 (a fr : Int) : List Value := [.int .u32 a, .int .i64 fr]
theorem G5e0_0_ok (a fr : Int) (ha0 : 0 ≤ a) (ha1 : a ≤ 4294967295) (hf0 : -9223372036854775808 ≤ fr) (hf1 : fr ≤ 9223372036854775807) (c0 : fr < 0) : @EntOK (env (G5v0 a fr)) Try.prog G5e0_0 := by
  letI : Env := (env (G5v0 a fr))
  exact entCmp (k := .i64) (a := fr) (b := 0) rfl rfl (by show some (decide ((fr : Int) < 0)) = some true; rw [decide_eq_true (by first | omega | (simp only [sumVal, oct.sumF, oct.F, oct.ws]; omega))])
abbrev G5v1 (a fr : Int) : List Value := [.int .u32 a, .int .i64 fr]
theorem G5e1_0_ok (a fr : Int) (ha0 : 0 ≤ a) (ha1 : a ≤ 4294967295) (hf0 : -9223372036854775808 ≤ fr) (hf1 : fr ≤ 9223372036854775807) (c0 : ¬ (fr < 0)) (c1 : fr > 1099511626776) : @EntOK (env (G5v1 a fr)) Try.prog G5e1_0 := by
  letI : Env := (env (G5v1 a fr))
  exact entCmp (k := .i64) (a := fr) (b := 0) rfl rfl (by show some (decide ((fr : Int) < 0)) = some false; rw [decide_eq_false (by first | omega | (simp only [sumVal, oct.sumF, oct.F, oct.ws]; omega))])
theorem G5e1_1_ok (a fr : Int) (ha0 : 0 ≤ a) (ha1 : a ≤ 4294967295) (hf0 : -9223372036854775808 ≤ fr) (hf1 : fr ≤ 9223372036854775807) (c0 : ¬ (fr < 0)) (c1 : fr > 1099511626776) : @EntOK (env (G5v1 a fr)) Try.prog G5e1_1 := by
  letI : Env := (env (G5v1 a fr))
  exact entCmp (k := .i64) (a := fr) (b := 1099511626776) rfl rfl (by show some (decide ((fr : Int) > 1099511626776)) = some true; rw [decide_eq_true (by first | omega | (simp only [sumVal, oct.sumF, oct.F, oct.ws]; omega))])
abbrev G5v2 (a fr : Int) : List Value := [.int .u32 a, .int .i64 fr, .int .i64 (fr + 10), .int .i64 (fr + 1000), .int .i64 (fr + 1), .int .i64 (fr + 2), .int .i64 (fr + 3), .int .i64 (fr + 4), .int .i64 (fr + 5), .int .i64 (fr + 6), .int .i64 (fr + 7), .int .i64 (fr + 8), .int .i64 (fr + 9), .int .i64 (fr + 10), .int .i64 (fr + 20), .int .i64 10, .int .i64 (10 % 10), .int .i64 (fr + 11), .int .i64 (fr + 12), .int .i64 (fr + 13), .int .i64 (fr + 14), .int .i64 (fr + 15), .int .i64 (fr + 16), .int .i64 (fr + 17), .int .i64 (fr + 18), .int .i64 (fr + 19), .int .i64 (fr + 20), .int .i64 (fr + 30), .int .i64 20, .int .i64 (20 % 10), .int .i64 (fr + 21), .int .i64 (fr + 22), .int .i64 (fr + 23), .int .i64 (fr + 24), .int .i64 (fr + 25), .int .i64 (fr + 26), .int .i64 (fr + 27), .int .i64 (fr + 28), .int .i64 (fr + 29), .int .i64 (fr + 30), .int .i64 (fr + 30)]
theorem G5e2_0_ok (a fr : Int) (ha0 : 0 ≤ a) (ha1 : a ≤ 4294967295) (hf0 : -9223372036854775808 ≤ fr) (hf1 : fr ≤ 9223372036854775807) (c0 : ¬ (fr < 0)) (c1 : ¬ (fr > 1099511626776)) : @EntOK (env (G5v2 a fr)) Try.prog G5e2_0 := by
  letI : Env := (env (G5v2 a fr))
  exact entCmp (k := .i64) (a := fr) (b := 0) rfl rfl (by show some (decide ((fr : Int) < 0)) = some false; rw [decide_eq_false (by first | omega | (simp only [sumVal, oct.sumF, oct.F, oct.ws]; omega))])
theorem G5e2_1_ok (a fr : Int) (ha0 : 0 ≤ a) (ha1 : a ≤ 4294967295) (hf0 : -9223372036854775808 ≤ fr) (hf1 : fr ≤ 9223372036854775807) (c0 : ¬ (fr < 0)) (c1 : ¬ (fr > 1099511626776)) : @EntOK (env (G5v2 a fr)) Try.prog G5e2_1 := by
  letI : Env := (env (G5v2 a fr))
  exact entCmp (k := .i64) (a := fr) (b := 1099511626776) rfl rfl (by show some (decide ((fr : Int) > 1099511626776)) = some false; rw [decide_eq_false (by first | omega | (simp only [sumVal, oct.sumF, oct.F, oct.ws]; omega))])
theorem G5e2_2_ok (a fr : Int) (ha0 : 0 ≤ a) (ha1 : a ≤ 4294967295) (hf0 : -9223372036854775808 ≤ fr) (hf1 : fr ≤ 9223372036854775807) (c0 : ¬ (fr < 0)) (c1 : ¬ (fr > 1099511626776)) : @EntOK (env (G5v2 a fr)) Try.prog G5e2_2 := by
  letI : Env := (env (G5v2 a fr))
  exact entCmp (k := .i64) (a := fr) (b := 9223372036854775797) rfl rfl (by show some (decide ((fr : Int) > 9223372036854775797)) = some false; rw [decide_eq_false (by first | omega | (simp only [sumVal, oct.sumF, oct.F, oct.ws]; omega))])
theorem G5e2_3_ok (a fr : Int) (ha0 : 0 ≤ a) (ha1 : a ≤ 4294967295) (hf0 : -9223372036854775808 ≤ fr) (hf1 : fr ≤ 9223372036854775807) (c0 : ¬ (fr < 0)) (c1 : ¬ (fr > 1099511626776)) : @EntOK (env (G5v2 a fr)) Try.prog G5e2_3 := by
  letI : Env := (env (G5v2 a fr))
  exact entArith (k := .i64) (a := fr) (b := 10) (c := (fr + 10)) rfl rfl rfl (by show some (IntKind.i64.wrap (fr + 10)) = some (fr + 10); (rw [IntWalk.i64_in _ (by first | omega | (simp only [sumVal, oct.sumF, oct.F, oct.ws]; omega))]) <;> exact congrArg some (by omega))
theorem G5e2_4_ok (a fr : Int) (ha0 : 0 ≤ a) (ha1 : a ≤ 4294967295) (hf0 : -9223372036854775808 ≤ fr) (hf1 : fr ≤ 9223372036854775807) (c0 : ¬ (fr < 0)) (c1 : ¬ (fr > 1099511626776)) : @EntOK (env (G5v2 a fr)) Try.prog G5e2_4 := by
  letI : Env := (env (G5v2 a fr))
  exact entArith (k := .i64) (a := fr) (b := 1000) (c := (fr + 1000)) rfl rfl rfl (by show some (IntKind.i64.wrap (fr + 1000)) = some (fr + 1000); (rw [IntWalk.i64_in _ (by first | omega | (simp only [sumVal, oct.sumF, oct.F, oct.ws]; omega))]) <;> exact congrArg some (by omega))
theorem G5e2_5_ok (a fr : Int) (ha0 : 0 ≤ a) (ha1 : a ≤ 4294967295) (hf0 : -9223372036854775808 ≤ fr) (hf1 : fr ≤ 9223372036854775807) (c0 : ¬ (fr < 0)) (c1 : ¬ (fr > 1099511626776)) : @EntOK (env (G5v2 a fr)) Try.prog G5e2_5 := by
  letI : Env := (env (G5v2 a fr))
  exact entCmp (k := .i64) (a := fr) (b := (fr + 1000)) rfl rfl (by show some (decide ((fr : Int) ≤ (fr + 1000))) = some true; rw [decide_eq_true (by first | omega | (simp only [sumVal, oct.sumF, oct.F, oct.ws]; omega))])
theorem G5e2_6_ok (a fr : Int) (ha0 : 0 ≤ a) (ha1 : a ≤ 4294967295) (hf0 : -9223372036854775808 ≤ fr) (hf1 : fr ≤ 9223372036854775807) (c0 : ¬ (fr < 0)) (c1 : ¬ (fr > 1099511626776)) : @EntOK (env (G5v2 a fr)) Try.prog G5e2_6 := by
  letI : Env := (env (G5v2 a fr))
  exact entCmp (k := .i64) (a := (fr + 10)) (b := fr) rfl rfl (by show some (decide (((fr + 10) : Int) > fr)) = some true; rw [decide_eq_true (by first | omega | (simp only [sumVal, oct.sumF, oct.F, oct.ws]; omega))])
theorem G5e2_7_ok (a fr : Int) (ha0 : 0 ≤ a) (ha1 : a ≤ 4294967295) (hf0 : -9223372036854775808 ≤ fr) (hf1 : fr ≤ 9223372036854775807) (c0 : ¬ (fr < 0)) (c1 : ¬ (fr > 1099511626776)) : @EntOK (env (G5v2 a fr)) Try.prog G5e2_7 := by
  letI : Env := (env (G5v2 a fr))
  exact entArith (k := .i64) (a := fr) (b := 1) (c := (fr + 1)) rfl rfl rfl (by show some (IntKind.i64.wrap (fr + 1)) = some (fr + 1); (rw [IntWalk.i64_in _ (by first | omega | (simp only [sumVal, oct.sumF, oct.F, oct.ws]; omega))]) <;> exact congrArg some (by omega))
theorem G5e2_8_ok (a fr : Int) (ha0 : 0 ≤ a) (ha1 : a ≤ 4294967295) (hf0 : -9223372036854775808 ≤ fr) (hf1 : fr ≤ 9223372036854775807) (c0 : ¬ (fr < 0)) (c1 : ¬ (fr > 1099511626776)) : @EntOK (env (G5v2 a fr)) Try.prog G5e2_8 := by
  letI : Env := (env (G5v2 a fr))
  exact entCmp (k := .i64) (a := (fr + 1)) (b := (fr + 1000)) rfl rfl (by show some (decide (((fr + 1) : Int) ≤ (fr + 1000))) = some true; rw [decide_eq_true (by first | omega | (simp only [sumVal, oct.sumF, oct.F, oct.ws]; omega))])
theorem G5e2_9_ok (a fr : Int) (ha0 : 0 ≤ a) (ha1 : a ≤ 4294967295) (hf0 : -9223372036854775808 ≤ fr) (hf1 : fr ≤ 9223372036854775807) (c0 : ¬ (fr < 0)) (c1 : ¬ (fr > 1099511626776)) : @EntOK (env (G5v2 a fr)) Try.prog G5e2_9 := by
  letI : Env := (env (G5v2 a fr))
  exact entCmp (k := .i64) (a := (fr + 10)) (b := (fr + 1)) rfl rfl (by show some (decide (((fr + 10) : Int) > (fr + 1))) = some true; rw [decide_eq_true (by first | omega | (simp only [sumVal, oct.sumF, oct.F, oct.ws]; omega))])
theorem G5e2_10_ok (a fr : Int) (ha0 : 0 ≤ a) (ha1 : a ≤ 4294967295) (hf0 : -9223372036854775808 ≤ fr) (hf1 : fr ≤ 9223372036854775807) (c0 : ¬ (fr < 0)) (c1 : ¬ (fr > 1099511626776)) : @EntOK (env (G5v2 a fr)) Try.prog G5e2_10 := by
  letI : Env := (env (G5v2 a fr))
  exact entArith (k := .i64) (a := (fr + 1)) (b := 1) (c := (fr + 2)) rfl rfl rfl (by show some (IntKind.i64.wrap ((fr + 1) + 1)) = some (fr + 2); (rw [IntWalk.i64_in _ (by first | omega | (simp only [sumVal, oct.sumF, oct.F, oct.ws]; omega))]) <;> exact congrArg some (by omega))
theorem G5e2_11_ok (a fr : Int) (ha0 : 0 ≤ a) (ha1 : a ≤ 4294967295) (hf0 : -9223372036854775808 ≤ fr) (hf1 : fr ≤ 9223372036854775807) (c0 : ¬ (fr < 0)) (c1 : ¬ (fr > 1099511626776)) : @EntOK (env (G5v2 a fr)) Try.prog G5e2_11 := by
  letI : Env := (env (G5v2 a fr))
  exact entCmp (k := .i64) (a := (fr + 2)) (b := (fr + 1000)) rfl rfl (by show some (decide (((fr + 2) : Int) ≤ (fr + 1000))) = some true; rw [decide_eq_true (by first | omega | (simp only [sumVal, oct.sumF, oct.F, oct.ws]; omega))])
theorem G5e2_12_ok (a fr : Int) (ha0 : 0 ≤ a) (ha1 : a ≤ 4294967295) (hf0 : -9223372036854775808 ≤ fr) (hf1 : fr ≤ 9223372036854775807) (c0 : ¬ (fr < 0)) (c1 : ¬ (fr > 1099511626776)) : @EntOK (env (G5v2 a fr)) Try.prog G5e2_12 := by
  letI : Env := (env (G5v2 a fr))
  exact entCmp (k := .i64) (a := (fr + 10)) (b := (fr + 2)) rfl rfl (by show some (decide (((fr + 10) : Int) > (fr + 2))) = some true; rw [decide_eq_true (by first | omega | (simp only [sumVal, oct.sumF, oct.F, oct.ws]; omega))])
theorem G5e2_13_ok (a fr : Int) (ha0 : 0 ≤ a) (ha1 : a ≤ 4294967295) (hf0 : -9223372036854775808 ≤ fr) (hf1 : fr ≤ 9223372036854775807) (c0 : ¬ (fr < 0)) (c1 : ¬ (fr > 1099511626776)) : @EntOK (env (G5v2 a fr)) Try.prog G5e2_13 := by
  letI : Env := (env (G5v2 a fr))
  exact entArith (k := .i64) (a := (fr + 2)) (b := 1) (c := (fr + 3)) rfl rfl rfl (by show some (IntKind.i64.wrap ((fr + 2) + 1)) = some (fr + 3); (rw [IntWalk.i64_in _ (by first | omega | (simp only [sumVal, oct.sumF, oct.F, oct.ws]; omega))]) <;> exact congrArg some (by omega))
theorem G5e2_14_ok (a fr : Int) (ha0 : 0 ≤ a) (ha1 : a ≤ 4294967295) (hf0 : -9223372036854775808 ≤ fr) (hf1 : fr ≤ 9223372036854775807) (c0 : ¬ (fr < 0)) (c1 : ¬ (fr > 1099511626776)) : @EntOK (env (G5v2 a fr)) Try.prog G5e2_14 := by
  letI : Env := (env (G5v2 a fr))
  exact entCmp (k := .i64) (a := (fr + 3)) (b := (fr + 1000)) rfl rfl (by show some (decide (((fr + 3) : Int) ≤ (fr + 1000))) = some true; rw [decide_eq_true (by first | omega | (simp only [sumVal, oct.sumF, oct.F, oct.ws]; omega))])
theorem G5e2_15_ok (a fr : Int) (ha0 : 0 ≤ a) (ha1 : a ≤ 4294967295) (hf0 : -9223372036854775808 ≤ fr) (hf1 : fr ≤ 9223372036854775807) (c0 : ¬ (fr < 0)) (c1 : ¬ (fr > 1099511626776)) : @EntOK (env (G5v2 a fr)) Try.prog G5e2_15 := by
  letI : Env := (env (G5v2 a fr))
  exact entCmp (k := .i64) (a := (fr + 10)) (b := (fr + 3)) rfl rfl (by show some (decide (((fr + 10) : Int) > (fr + 3))) = some true; rw [decide_eq_true (by first | omega | (simp only [sumVal, oct.sumF, oct.F, oct.ws]; omega))])
theorem G5e2_16_ok (a fr : Int) (ha0 : 0 ≤ a) (ha1 : a ≤ 4294967295) (hf0 : -9223372036854775808 ≤ fr) (hf1 : fr ≤ 9223372036854775807) (c0 : ¬ (fr < 0)) (c1 : ¬ (fr > 1099511626776)) : @EntOK (env (G5v2 a fr)) Try.prog G5e2_16 := by
  letI : Env := (env (G5v2 a fr))
  exact entArith (k := .i64) (a := (fr + 3)) (b := 1) (c := (fr + 4)) rfl rfl rfl (by show some (IntKind.i64.wrap ((fr + 3) + 1)) = some (fr + 4); (rw [IntWalk.i64_in _ (by first | omega | (simp only [sumVal, oct.sumF, oct.F, oct.ws]; omega))]) <;> exact congrArg some (by omega))
theorem G5e2_17_ok (a fr : Int) (ha0 : 0 ≤ a) (ha1 : a ≤ 4294967295) (hf0 : -9223372036854775808 ≤ fr) (hf1 : fr ≤ 9223372036854775807) (c0 : ¬ (fr < 0)) (c1 : ¬ (fr > 1099511626776)) : @EntOK (env (G5v2 a fr)) Try.prog G5e2_17 := by
  letI : Env := (env (G5v2 a fr))
  exact entCmp (k := .i64) (a := (fr + 4)) (b := (fr + 1000)) rfl rfl (by show some (decide (((fr + 4) : Int) ≤ (fr + 1000))) = some true; rw [decide_eq_true (by first | omega | (simp only [sumVal, oct.sumF, oct.F, oct.ws]; omega))])
theorem G5e2_18_ok (a fr : Int) (ha0 : 0 ≤ a) (ha1 : a ≤ 4294967295) (hf0 : -9223372036854775808 ≤ fr) (hf1 : fr ≤ 9223372036854775807) (c0 : ¬ (fr < 0)) (c1 : ¬ (fr > 1099511626776)) : @EntOK (env (G5v2 a fr)) Try.prog G5e2_18 := by
  letI : Env := (env (G5v2 a fr))
  exact entCmp (k := .i64) (a := (fr + 10)) (b := (fr + 4)) rfl rfl (by show some (decide (((fr + 10) : Int) > (fr + 4))) = some true; rw [decide_eq_true (by first | omega | (simp only [sumVal, oct.sumF, oct.F, oct.ws]; omega))])
theorem G5e2_19_ok (a fr : Int) (ha0 : 0 ≤ a) (ha1 : a ≤ 4294967295) (hf0 : -9223372036854775808 ≤ fr) (hf1 : fr ≤ 9223372036854775807) (c0 : ¬ (fr < 0)) (c1 : ¬ (fr > 1099511626776)) : @EntOK (env (G5v2 a fr)) Try.prog G5e2_19 := by
  letI : Env := (env (G5v2 a fr))
  exact entArith (k := .i64) (a := (fr + 4)) (b := 1) (c := (fr + 5)) rfl rfl rfl (by show some (IntKind.i64.wrap ((fr + 4) + 1)) = some (fr + 5); (rw [IntWalk.i64_in _ (by first | omega | (simp only [sumVal, oct.sumF, oct.F, oct.ws]; omega))]) <;> exact congrArg some (by omega))
theorem G5e2_20_ok (a fr : Int) (ha0 : 0 ≤ a) (ha1 : a ≤ 4294967295) (hf0 : -9223372036854775808 ≤ fr) (hf1 : fr ≤ 9223372036854775807) (c0 : ¬ (fr < 0)) (c1 : ¬ (fr > 1099511626776)) : @EntOK (env (G5v2 a fr)) Try.prog G5e2_20 := by
  letI : Env := (env (G5v2 a fr))
  exact entCmp (k := .i64) (a := (fr + 5)) (b := (fr + 1000)) rfl rfl (by show some (decide (((fr + 5) : Int) ≤ (fr + 1000))) = some true; rw [decide_eq_true (by first | omega | (simp only [sumVal, oct.sumF, oct.F, oct.ws]; omega))])
theorem G5e2_21_ok (a fr : Int) (ha0 : 0 ≤ a) (ha1 : a ≤ 4294967295) (hf0 : -9223372036854775808 ≤ fr) (hf1 : fr ≤ 9223372036854775807) (c0 : ¬ (fr < 0)) (c1 : ¬ (fr > 1099511626776)) : @EntOK (env (G5v2 a fr)) Try.prog G5e2_21 := by
  letI : Env := (env (G5v2 a fr))
  exact entCmp (k := .i64) (a := (fr + 10)) (b := (fr + 5)) rfl rfl (by show some (decide (((fr + 10) : Int) > (fr + 5))) = some true; rw [decide_eq_true (by first | omega | (simp only [sumVal, oct.sumF, oct.F, oct.ws]; omega))])
theorem G5e2_22_ok (a fr : Int) (ha0 : 0 ≤ a) (ha1 : a ≤ 4294967295) (hf0 : -9223372036854775808 ≤ fr) (hf1 : fr ≤ 9223372036854775807) (c0 : ¬ (fr < 0)) (c1 : ¬ (fr > 1099511626776)) : @EntOK (env (G5v2 a fr)) Try.prog G5e2_22 := by
  letI : Env := (env (G5v2 a fr))
  exact entArith (k := .i64) (a := (fr + 5)) (b := 1) (c := (fr + 6)) rfl rfl rfl (by show some (IntKind.i64.wrap ((fr + 5) + 1)) = some (fr + 6); (rw [IntWalk.i64_in _ (by first | omega | (simp only [sumVal, oct.sumF, oct.F, oct.ws]; omega))]) <;> exact congrArg some (by omega))
theorem G5e2_23_ok (a fr : Int) (ha0 : 0 ≤ a) (ha1 : a ≤ 4294967295) (hf0 : -9223372036854775808 ≤ fr) (hf1 : fr ≤ 9223372036854775807) (c0 : ¬ (fr < 0)) (c1 : ¬ (fr > 1099511626776)) : @EntOK (env (G5v2 a fr)) Try.prog G5e2_23 := by
  letI : Env := (env (G5v2 a fr))
  exact entCmp (k := .i64) (a := (fr + 6)) (b := (fr + 1000)) rfl rfl (by show some (decide (((fr + 6) : Int) ≤ (fr + 1000))) = some true; rw [decide_eq_true (by first | omega | (simp only [sumVal, oct.sumF, oct.F, oct.ws]; omega))])
theorem G5e2_24_ok (a fr : Int) (ha0 : 0 ≤ a) (ha1 : a ≤ 4294967295) (hf0 : -9223372036854775808 ≤ fr) (hf1 : fr ≤ 9223372036854775807) (c0 : ¬ (fr < 0)) (c1 : ¬ (fr > 1099511626776)) : @EntOK (env (G5v2 a fr)) Try.prog G5e2_24 := by
  letI : Env := (env (G5v2 a fr))
  exact entCmp (k := .i64) (a := (fr + 10)) (b := (fr + 6)) rfl rfl (by show some (decide (((fr + 10) : Int) > (fr + 6))) = some true; rw [decide_eq_true (by first | omega | (simp only [sumVal, oct.sumF, oct.F, oct.ws]; omega))])
theorem G5e2_25_ok (a fr : Int) (ha0 : 0 ≤ a) (ha1 : a ≤ 4294967295) (hf0 : -9223372036854775808 ≤ fr) (hf1 : fr ≤ 9223372036854775807) (c0 : ¬ (fr < 0)) (c1 : ¬ (fr > 1099511626776)) : @EntOK (env (G5v2 a fr)) Try.prog G5e2_25 := by
  letI : Env := (env (G5v2 a fr))
  exact entArith (k := .i64) (a := (fr + 6)) (b := 1) (c := (fr + 7)) rfl rfl rfl (by show some (IntKind.i64.wrap ((fr + 6) + 1)) = some (fr + 7); (rw [IntWalk.i64_in _ (by first | omega | (simp only [sumVal, oct.sumF, oct.F, oct.ws]; omega))]) <;> exact congrArg some (by omega))
theorem G5e2_26_ok (a fr : Int) (ha0 : 0 ≤ a) (ha1 : a ≤ 4294967295) (hf0 : -9223372036854775808 ≤ fr) (hf1 : fr ≤ 9223372036854775807) (c0 : ¬ (fr < 0)) (c1 : ¬ (fr > 1099511626776)) : @EntOK (env (G5v2 a fr)) Try.prog G5e2_26 := by
  letI : Env := (env (G5v2 a fr))
  exact entCmp (k := .i64) (a := (fr + 7)) (b := (fr + 1000)) rfl rfl (by show some (decide (((fr + 7) : Int) ≤ (fr + 1000))) = some true; rw [decide_eq_true (by first | omega | (simp only [sumVal, oct.sumF, oct.F, oct.ws]; omega))])
theorem G5e2_27_ok (a fr : Int) (ha0 : 0 ≤ a) (ha1 : a ≤ 4294967295) (hf0 : -9223372036854775808 ≤ fr) (hf1 : fr ≤ 9223372036854775807) (c0 : ¬ (fr < 0)) (c1 : ¬ (fr > 1099511626776)) : @EntOK (env (G5v2 a fr)) Try.prog G5e2_27 := by
  letI : Env := (env (G5v2 a fr))
  exact entCmp (k := .i64) (a := (fr + 10)) (b := (fr + 7)) rfl rfl (by show some (decide (((fr + 10) : Int) > (fr + 7))) = some true; rw [decide_eq_true (by first | omega | (simp only [sumVal, oct.sumF, oct.F, oct.ws]; omega))])
theorem G5e2_28_ok (a fr : Int) (ha0 : 0 ≤ a) (ha1 : a ≤ 4294967295) (hf0 : -9223372036854775808 ≤ fr) (hf1 : fr ≤ 9223372036854775807) (c0 : ¬ (fr < 0)) (c1 : ¬ (fr > 1099511626776)) : @EntOK (env (G5v2 a fr)) Try.prog G5e2_28 := by
  letI : Env := (env (G5v2 a fr))
  exact entArith (k := .i64) (a := (fr + 7)) (b := 1) (c := (fr + 8)) rfl rfl rfl (by show some (IntKind.i64.wrap ((fr + 7) + 1)) = some (fr + 8); (rw [IntWalk.i64_in _ (by first | omega | (simp only [sumVal, oct.sumF, oct.F, oct.ws]; omega))]) <;> exact congrArg some (by omega))
theorem G5e2_29_ok (a fr : Int) (ha0 : 0 ≤ a) (ha1 : a ≤ 4294967295) (hf0 : -9223372036854775808 ≤ fr) (hf1 : fr ≤ 9223372036854775807) (c0 : ¬ (fr < 0)) (c1 : ¬ (fr > 1099511626776)) : @EntOK (env (G5v2 a fr)) Try.prog G5e2_29 := by
  letI : Env := (env (G5v2 a fr))
  exact entCmp (k := .i64) (a := (fr + 8)) (b := (fr + 1000)) rfl rfl (by show some (decide (((fr + 8) : Int) ≤ (fr + 1000))) = some true; rw [decide_eq_true (by first | omega | (simp only [sumVal, oct.sumF, oct.F, oct.ws]; omega))])
theorem G5e2_30_ok (a fr : Int) (ha0 : 0 ≤ a) (ha1 : a ≤ 4294967295) (hf0 : -9223372036854775808 ≤ fr) (hf1 : fr ≤ 9223372036854775807) (c0 : ¬ (fr < 0)) (c1 : ¬ (fr > 1099511626776)) : @EntOK (env (G5v2 a fr)) Try.prog G5e2_30 := by
  letI : Env := (env (G5v2 a fr))
  exact entCmp (k := .i64) (a := (fr + 10)) (b := (fr + 8)) rfl rfl (by show some (decide (((fr + 10) : Int) > (fr + 8))) = some true; rw [decide_eq_true (by first | omega | (simp only [sumVal, oct.sumF, oct.F, oct.ws]; omega))])
theorem G5e2_31_ok (a fr : Int) (ha0 : 0 ≤ a) (ha1 : a ≤ 4294967295) (hf0 : -9223372036854775808 ≤ fr) (hf1 : fr ≤ 9223372036854775807) (c0 : ¬ (fr < 0)) (c1 : ¬ (fr > 1099511626776)) : @EntOK (env (G5v2 a fr)) Try.prog G5e2_31 := by
  letI : Env := (env (G5v2 a fr))
  exact entArith (k := .i64) (a := (fr + 8)) (b := 1) (c := (fr + 9)) rfl rfl rfl (by show some (IntKind.i64.wrap ((fr + 8) + 1)) = some (fr + 9); (rw [IntWalk.i64_in _ (by first | omega | (simp only [sumVal, oct.sumF, oct.F, oct.ws]; omega))]) <;> exact congrArg some (by omega))
theorem G5e2_32_ok (a fr : Int) (ha0 : 0 ≤ a) (ha1 : a ≤ 4294967295) (hf0 : -9223372036854775808 ≤ fr) (hf1 : fr ≤ 9223372036854775807) (c0 : ¬ (fr < 0)) (c1 : ¬ (fr > 1099511626776)) : @EntOK (env (G5v2 a fr)) Try.prog G5e2_32 := by
  letI : Env := (env (G5v2 a fr))
  exact entCmp (k := .i64) (a := (fr + 9)) (b := (fr + 1000)) rfl rfl (by show some (decide (((fr + 9) : Int) ≤ (fr + 1000))) = some true; rw [decide_eq_true (by first | omega | (simp only [sumVal, oct.sumF, oct.F, oct.ws]; omega))])
theorem G5e2_33_ok (a fr : Int) (ha0 : 0 ≤ a) (ha1 : a ≤ 4294967295) (hf0 : -9223372036854775808 ≤ fr) (hf1 : fr ≤ 9223372036854775807) (c0 : ¬ (fr < 0)) (c1 : ¬ (fr > 1099511626776)) : @EntOK (env (G5v2 a fr)) Try.prog G5e2_33 := by
  letI : Env := (env (G5v2 a fr))
  exact entCmp (k := .i64) (a := (fr + 10)) (b := (fr + 9)) rfl rfl (by show some (decide (((fr + 10) : Int) > (fr + 9))) = some true; rw [decide_eq_true (by first | omega | (simp only [sumVal, oct.sumF, oct.F, oct.ws]; omega))])
theorem G5e2_34_ok (a fr : Int) (ha0 : 0 ≤ a) (ha1 : a ≤ 4294967295) (hf0 : -9223372036854775808 ≤ fr) (hf1 : fr ≤ 9223372036854775807) (c0 : ¬ (fr < 0)) (c1 : ¬ (fr > 1099511626776)) : @EntOK (env (G5v2 a fr)) Try.prog G5e2_34 := by
  letI : Env := (env (G5v2 a fr))
  exact entArith (k := .i64) (a := (fr + 9)) (b := 1) (c := (fr + 10)) rfl rfl rfl (by show some (IntKind.i64.wrap ((fr + 9) + 1)) = some (fr + 10); (rw [IntWalk.i64_in _ (by first | omega | (simp only [sumVal, oct.sumF, oct.F, oct.ws]; omega))]) <;> exact congrArg some (by omega))
theorem G5e2_35_ok (a fr : Int) (ha0 : 0 ≤ a) (ha1 : a ≤ 4294967295) (hf0 : -9223372036854775808 ≤ fr) (hf1 : fr ≤ 9223372036854775807) (c0 : ¬ (fr < 0)) (c1 : ¬ (fr > 1099511626776)) : @EntOK (env (G5v2 a fr)) Try.prog G5e2_35 := by
  letI : Env := (env (G5v2 a fr))
  exact entCmp (k := .i64) (a := (fr + 10)) (b := (fr + 1000)) rfl rfl (by show some (decide (((fr + 10) : Int) ≤ (fr + 1000))) = some true; rw [decide_eq_true (by first | omega | (simp only [sumVal, oct.sumF, oct.F, oct.ws]; omega))])
theorem G5e2_36_ok (a fr : Int) (ha0 : 0 ≤ a) (ha1 : a ≤ 4294967295) (hf0 : -9223372036854775808 ≤ fr) (hf1 : fr ≤ 9223372036854775807) (c0 : ¬ (fr < 0)) (c1 : ¬ (fr > 1099511626776)) : @EntOK (env (G5v2 a fr)) Try.prog G5e2_36 := by
  letI : Env := (env (G5v2 a fr))
  exact entCmp (k := .i64) (a := (fr + 10)) (b := (fr + 10)) rfl rfl (by show some (decide (((fr + 10) : Int) > (fr + 10))) = some false; rw [decide_eq_false (by first | omega | (simp only [sumVal, oct.sumF, oct.F, oct.ws]; omega))])
theorem G5e2_37_ok (a fr : Int) (ha0 : 0 ≤ a) (ha1 : a ≤ 4294967295) (hf0 : -9223372036854775808 ≤ fr) (hf1 : fr ≤ 9223372036854775807) (c0 : ¬ (fr < 0)) (c1 : ¬ (fr > 1099511626776)) : @EntOK (env (G5v2 a fr)) Try.prog G5e2_37 := by
  letI : Env := (env (G5v2 a fr))
  exact entCmp (k := .i64) (a := (fr + 10)) (b := 9223372036854775797) rfl rfl (by show some (decide (((fr + 10) : Int) > 9223372036854775797)) = some false; rw [decide_eq_false (by first | omega | (simp only [sumVal, oct.sumF, oct.F, oct.ws]; omega))])
theorem G5e2_38_ok (a fr : Int) (ha0 : 0 ≤ a) (ha1 : a ≤ 4294967295) (hf0 : -9223372036854775808 ≤ fr) (hf1 : fr ≤ 9223372036854775807) (c0 : ¬ (fr < 0)) (c1 : ¬ (fr > 1099511626776)) : @EntOK (env (G5v2 a fr)) Try.prog G5e2_38 := by
  letI : Env := (env (G5v2 a fr))
  exact entArith (k := .i64) (a := (fr + 10)) (b := 10) (c := (fr + 20)) rfl rfl rfl (by show some (IntKind.i64.wrap ((fr + 10) + 10)) = some (fr + 20); (rw [IntWalk.i64_in _ (by first | omega | (simp only [sumVal, oct.sumF, oct.F, oct.ws]; omega))]) <;> exact congrArg some (by omega))
theorem G5e2_39_ok (a fr : Int) (ha0 : 0 ≤ a) (ha1 : a ≤ 4294967295) (hf0 : -9223372036854775808 ≤ fr) (hf1 : fr ≤ 9223372036854775807) (c0 : ¬ (fr < 0)) (c1 : ¬ (fr > 1099511626776)) : @EntOK (env (G5v2 a fr)) Try.prog G5e2_39 := by
  letI : Env := (env (G5v2 a fr))
  exact entArith (k := .i64) (a := (fr + 10)) (b := fr) (c := 10) rfl rfl rfl (by show some (IntKind.i64.wrap ((fr + 10) - fr)) = some (10); (rw [IntWalk.i64_in _ (by first | omega | (simp only [sumVal, oct.sumF, oct.F, oct.ws]; omega))]) <;> exact congrArg some (by omega))
theorem G5e2_40_ok (a fr : Int) (ha0 : 0 ≤ a) (ha1 : a ≤ 4294967295) (hf0 : -9223372036854775808 ≤ fr) (hf1 : fr ≤ 9223372036854775807) (c0 : ¬ (fr < 0)) (c1 : ¬ (fr > 1099511626776)) : @EntOK (env (G5v2 a fr)) Try.prog G5e2_40 := by
  letI : Env := (env (G5v2 a fr))
  exact (by have h := entRem (P := Try.prog) (x := .chan (some 15)) (y := .int .i64 10) (k := .i64) (a := 10) (b := 10) (j := 16) rfl rfl (by rw [Int.tmod_eq_emod_of_nonneg (by first | omega | (simp only [sumVal, oct.sumF, oct.F, oct.ws]; omega))]; rfl) (by omega); exact h)
theorem G5e2_41_ok (a fr : Int) (ha0 : 0 ≤ a) (ha1 : a ≤ 4294967295) (hf0 : -9223372036854775808 ≤ fr) (hf1 : fr ≤ 9223372036854775807) (c0 : ¬ (fr < 0)) (c1 : ¬ (fr > 1099511626776)) : @EntOK (env (G5v2 a fr)) Try.prog G5e2_41 := by
  letI : Env := (env (G5v2 a fr))
  exact entCmp (k := .i64) (a := (10 % 10)) (b := 0) rfl rfl (by show some (((10 % 10) : Int) != 0) = some false; rw [bne_eq_false_iff_eq.2 (by first | omega | (simp only [sumVal, oct.sumF, oct.F, oct.ws]; omega))])
theorem G5e2_42_ok (a fr : Int) (ha0 : 0 ≤ a) (ha1 : a ≤ 4294967295) (hf0 : -9223372036854775808 ≤ fr) (hf1 : fr ≤ 9223372036854775807) (c0 : ¬ (fr < 0)) (c1 : ¬ (fr > 1099511626776)) : @EntOK (env (G5v2 a fr)) Try.prog G5e2_42 := by
  letI : Env := (env (G5v2 a fr))
  exact entCmp (k := .u32) (a := a) (b := a) rfl rfl (by show some ((a : Int) != a) = some false; rw [bne_eq_false_iff_eq.2 (by first | omega | (simp only [sumVal, oct.sumF, oct.F, oct.ws]; omega))])
theorem G5e2_43_ok (a fr : Int) (ha0 : 0 ≤ a) (ha1 : a ≤ 4294967295) (hf0 : -9223372036854775808 ≤ fr) (hf1 : fr ≤ 9223372036854775807) (c0 : ¬ (fr < 0)) (c1 : ¬ (fr > 1099511626776)) : @EntOK (env (G5v2 a fr)) Try.prog G5e2_43 := by
  letI : Env := (env (G5v2 a fr))
  exact entArith (k := .i64) (a := (fr + 10)) (b := 1) (c := (fr + 11)) rfl rfl rfl (by show some (IntKind.i64.wrap ((fr + 10) + 1)) = some (fr + 11); (rw [IntWalk.i64_in _ (by first | omega | (simp only [sumVal, oct.sumF, oct.F, oct.ws]; omega))]) <;> exact congrArg some (by omega))
theorem G5e2_44_ok (a fr : Int) (ha0 : 0 ≤ a) (ha1 : a ≤ 4294967295) (hf0 : -9223372036854775808 ≤ fr) (hf1 : fr ≤ 9223372036854775807) (c0 : ¬ (fr < 0)) (c1 : ¬ (fr > 1099511626776)) : @EntOK (env (G5v2 a fr)) Try.prog G5e2_44 := by
  letI : Env := (env (G5v2 a fr))
  exact entCmp (k := .i64) (a := (fr + 11)) (b := (fr + 1000)) rfl rfl (by show some (decide (((fr + 11) : Int) ≤ (fr + 1000))) = some true; rw [decide_eq_true (by first | omega | (simp only [sumVal, oct.sumF, oct.F, oct.ws]; omega))])
theorem G5e2_45_ok (a fr : Int) (ha0 : 0 ≤ a) (ha1 : a ≤ 4294967295) (hf0 : -9223372036854775808 ≤ fr) (hf1 : fr ≤ 9223372036854775807) (c0 : ¬ (fr < 0)) (c1 : ¬ (fr > 1099511626776)) : @EntOK (env (G5v2 a fr)) Try.prog G5e2_45 := by
  letI : Env := (env (G5v2 a fr))
  exact entCmp (k := .i64) (a := (fr + 20)) (b := (fr + 11)) rfl rfl (by show some (decide (((fr + 20) : Int) > (fr + 11))) = some true; rw [decide_eq_true (by first | omega | (simp only [sumVal, oct.sumF, oct.F, oct.ws]; omega))])
theorem G5e2_46_ok (a fr : Int) (ha0 : 0 ≤ a) (ha1 : a ≤ 4294967295) (hf0 : -9223372036854775808 ≤ fr) (hf1 : fr ≤ 9223372036854775807) (c0 : ¬ (fr < 0)) (c1 : ¬ (fr > 1099511626776)) : @EntOK (env (G5v2 a fr)) Try.prog G5e2_46 := by
  letI : Env := (env (G5v2 a fr))
  exact entArith (k := .i64) (a := (fr + 11)) (b := 1) (c := (fr + 12)) rfl rfl rfl (by show some (IntKind.i64.wrap ((fr + 11) + 1)) = some (fr + 12); (rw [IntWalk.i64_in _ (by first | omega | (simp only [sumVal, oct.sumF, oct.F, oct.ws]; omega))]) <;> exact congrArg some (by omega))
theorem G5e2_47_ok (a fr : Int) (ha0 : 0 ≤ a) (ha1 : a ≤ 4294967295) (hf0 : -9223372036854775808 ≤ fr) (hf1 : fr ≤ 9223372036854775807) (c0 : ¬ (fr < 0)) (c1 : ¬ (fr > 1099511626776)) : @EntOK (env (G5v2 a fr)) Try.prog G5e2_47 := by
  letI : Env := (env (G5v2 a fr))
  exact entCmp (k := .i64) (a := (fr + 12)) (b := (fr + 1000)) rfl rfl (by show some (decide (((fr + 12) : Int) ≤ (fr + 1000))) = some true; rw [decide_eq_true (by first | omega | (simp only [sumVal, oct.sumF, oct.F, oct.ws]; omega))])
theorem G5e2_48_ok (a fr : Int) (ha0 : 0 ≤ a) (ha1 : a ≤ 4294967295) (hf0 : -9223372036854775808 ≤ fr) (hf1 : fr ≤ 9223372036854775807) (c0 : ¬ (fr < 0)) (c1 : ¬ (fr > 1099511626776)) : @EntOK (env (G5v2 a fr)) Try.prog G5e2_48 := by
  letI : Env := (env (G5v2 a fr))
  exact entCmp (k := .i64) (a := (fr + 20)) (b := (fr + 12)) rfl rfl (by show some (decide (((fr + 20) : Int) > (fr + 12))) = some true; rw [decide_eq_true (by first | omega | (simp only [sumVal, oct.sumF, oct.F, oct.ws]; omega))])
theorem G5e2_49_ok (a fr : Int) (ha0 : 0 ≤ a) (ha1 : a ≤ 4294967295) (hf0 : -9223372036854775808 ≤ fr) (hf1 : fr ≤ 9223372036854775807) (c0 : ¬ (fr < 0)) (c1 : ¬ (fr > 1099511626776)) : @EntOK (env (G5v2 a fr)) Try.prog G5e2_49 := by
  letI : Env := (env (G5v2 a fr))
  exact entArith (k := .i64) (a := (fr + 12)) (b := 1) (c := (fr + 13)) rfl rfl rfl (by show some (IntKind.i64.wrap ((fr + 12) + 1)) = some (fr + 13); (rw [IntWalk.i64_in _ (by first | omega | (simp only [sumVal, oct.sumF, oct.F, oct.ws]; omega))]) <;> exact congrArg some (by omega))
theorem G5e2_50_ok (a fr : Int) (ha0 : 0 ≤ a) (ha1 : a ≤ 4294967295) (hf0 : -9223372036854775808 ≤ fr) (hf1 : fr ≤ 9223372036854775807) (c0 : ¬ (fr < 0)) (c1 : ¬ (fr > 1099511626776)) : @EntOK (env (G5v2 a fr)) Try.prog G5e2_50 := by
  letI : Env := (env (G5v2 a fr))
  exact entCmp (k := .i64) (a := (fr + 13)) (b := (fr + 1000)) rfl rfl (by show some (decide (((fr + 13) : Int) ≤ (fr + 1000))) = some true; rw [decide_eq_true (by first | omega | (simp only [sumVal, oct.sumF, oct.F, oct.ws]; omega))])
theorem G5e2_51_ok (a fr : Int) (ha0 : 0 ≤ a) (ha1 : a ≤ 4294967295) (hf0 : -9223372036854775808 ≤ fr) (hf1 : fr ≤ 9223372036854775807) (c0 : ¬ (fr < 0)) (c1 : ¬ (fr > 1099511626776)) : @EntOK (env (G5v2 a fr)) Try.prog G5e2_51 := by
  letI : Env := (env (G5v2 a fr))
  exact entCmp (k := .i64) (a := (fr + 20)) (b := (fr + 13)) rfl rfl (by show some (decide (((fr + 20) : Int) > (fr + 13))) = some true; rw [decide_eq_true (by first | omega | (simp only [sumVal, oct.sumF, oct.F, oct.ws]; omega))])
theorem G5e2_52_ok (a fr : Int) (ha0 : 0 ≤ a) (ha1 : a ≤ 4294967295) (hf0 : -9223372036854775808 ≤ fr) (hf1 : fr ≤ 9223372036854775807) (c0 : ¬ (fr < 0)) (c1 : ¬ (fr > 1099511626776)) : @EntOK (env (G5v2 a fr)) Try.prog G5e2_52 := by
  letI : Env := (env (G5v2 a fr))
  exact entArith (k := .i64) (a := (fr + 13)) (b := 1) (c := (fr + 14)) rfl rfl rfl (by show some (IntKind.i64.wrap ((fr + 13) + 1)) = some (fr + 14); (rw [IntWalk.i64_in _ (by first | omega | (simp only [sumVal, oct.sumF, oct.F, oct.ws]; omega))]) <;> exact congrArg some (by omega))
theorem G5e2_53_ok (a fr : Int) (ha0 : 0 ≤ a) (ha1 : a ≤ 4294967295) (hf0 : -9223372036854775808 ≤ fr) (hf1 : fr ≤ 9223372036854775807) (c0 : ¬ (fr < 0)) (c1 : ¬ (fr > 1099511626776)) : @EntOK (env (G5v2 a fr)) Try.prog G5e2_53 := by
  letI : Env := (env (G5v2 a fr))
  exact entCmp (k := .i64) (a := (fr + 14)) (b := (fr + 1000)) rfl rfl (by show some (decide (((fr + 14) : Int) ≤ (fr + 1000))) = some true; rw [decide_eq_true (by first | omega | (simp only [sumVal, oct.sumF, oct.F, oct.ws]; omega))])
theorem G5e2_54_ok (a fr : Int) (ha0 : 0 ≤ a) (ha1 : a ≤ 4294967295) (hf0 : -9223372036854775808 ≤ fr) (hf1 : fr ≤ 9223372036854775807) (c0 : ¬ (fr < 0)) (c1 : ¬ (fr > 1099511626776)) : @EntOK (env (G5v2 a fr)) Try.prog G5e2_54 := by
  letI : Env := (env (G5v2 a fr))
  exact entCmp (k := .i64) (a := (fr + 20)) (b := (fr + 14)) rfl rfl (by show some (decide (((fr + 20) : Int) > (fr + 14))) = some true; rw [decide_eq_true (by first | omega | (simp only [sumVal, oct.sumF, oct.F, oct.ws]; omega))])
theorem G5e2_55_ok (a fr : Int) (ha0 : 0 ≤ a) (ha1 : a ≤ 4294967295) (hf0 : -9223372036854775808 ≤ fr) (hf1 : fr ≤ 9223372036854775807) (c0 : ¬ (fr < 0)) (c1 : ¬ (fr > 1099511626776)) : @EntOK (env (G5v2 a fr)) Try.prog G5e2_55 := by
  letI : Env := (env (G5v2 a fr))
  exact entArith (k := .i64) (a := (fr + 14)) (b := 1) (c := (fr + 15)) rfl rfl rfl (by show some (IntKind.i64.wrap ((fr + 14) + 1)) = some (fr + 15); (rw [IntWalk.i64_in _ (by first | omega | (simp only [sumVal, oct.sumF, oct.F, oct.ws]; omega))]) <;> exact congrArg some (by omega))
theorem G5e2_56_ok (a fr : Int) (ha0 : 0 ≤ a) (ha1 : a ≤ 4294967295) (hf0 : -9223372036854775808 ≤ fr) (hf1 : fr ≤ 9223372036854775807) (c0 : ¬ (fr < 0)) (c1 : ¬ (fr > 1099511626776)) : @EntOK (env (G5v2 a fr)) Try.prog G5e2_56 := by
  letI : Env := (env (G5v2 a fr))
  exact entCmp (k := .i64) (a := (fr + 15)) (b := (fr + 1000)) rfl rfl (by show some (decide (((fr + 15) : Int) ≤ (fr + 1000))) = some true; rw [decide_eq_true (by first | omega | (simp only [sumVal, oct.sumF, oct.F, oct.ws]; omega))])
theorem G5e2_57_ok (a fr : Int) (ha0 : 0 ≤ a) (ha1 : a ≤ 4294967295) (hf0 : -9223372036854775808 ≤ fr) (hf1 : fr ≤ 9223372036854775807) (c0 : ¬ (fr < 0)) (c1 : ¬ (fr > 1099511626776)) : @EntOK (env (G5v2 a fr)) Try.prog G5e2_57 := by
  letI : Env := (env (G5v2 a fr))
  exact entCmp (k := .i64) (a := (fr + 20)) (b := (fr + 15)) rfl rfl (by show some (decide (((fr + 20) : Int) > (fr + 15))) = some true; rw [decide_eq_true (by first | omega | (simp only [sumVal, oct.sumF, oct.F, oct.ws]; omega))])
theorem G5e2_58_ok (a fr : Int) (ha0 : 0 ≤ a) (ha1 : a ≤ 4294967295) (hf0 : -9223372036854775808 ≤ fr) (hf1 : fr ≤ 9223372036854775807) (c0 : ¬ (fr < 0)) (c1 : ¬ (fr > 1099511626776)) : @EntOK (env (G5v2 a fr)) Try.prog G5e2_58 := by
  letI : Env := (env (G5v2 a fr))
  exact entArith (k := .i64) (a := (fr + 15)) (b := 1) (c := (fr + 16)) rfl rfl rfl (by show some (IntKind.i64.wrap ((fr + 15) + 1)) = some (fr + 16); (rw [IntWalk.i64_in _ (by first | omega | (simp only [sumVal, oct.sumF, oct.F, oct.ws]; omega))]) <;> exact congrArg some (by omega))
theorem G5e2_59_ok (a fr : Int) (ha0 : 0 ≤ a) (ha1 : a ≤ 4294967295) (hf0 : -9223372036854775808 ≤ fr) (hf1 : fr ≤ 9223372036854775807) (c0 : ¬ (fr < 0)) (c1 : ¬ (fr > 1099511626776)) : @EntOK (env (G5v2 a fr)) Try.prog G5e2_59 := by
  letI : Env := (env (G5v2 a fr))
  exact entCmp (k := .i64) (a := (fr + 16)) (b := (fr + 1000)) rfl rfl (by show some (decide (((fr + 16) : Int) ≤ (fr + 1000))) = some true; rw [decide_eq_true (by first | omega | (simp only [sumVal, oct.sumF, oct.F, oct.ws]; omega))])
theorem G5e2_60_ok (a fr : Int) (ha0 : 0 ≤ a) (ha1 : a ≤ 4294967295) (hf0 : -9223372036854775808 ≤ fr) (hf1 : fr ≤ 9223372036854775807) (c0 : ¬ (fr < 0)) (c1 : ¬ (fr > 1099511626776)) : @EntOK (env (G5v2 a fr)) Try.prog G5e2_60 := by
  letI : Env := (env (G5v2 a fr))
  exact entCmp (k := .i64) (a := (fr + 20)) (b := (fr + 16)) rfl rfl (by show some (decide (((fr + 20) : Int) > (fr + 16))) = some true; rw [decide_eq_true (by first | omega | (simp only [sumVal, oct.sumF, oct.F, oct.ws]; omega))])
theorem G5e2_61_ok (a fr : Int) (ha0 : 0 ≤ a) (ha1 : a ≤ 4294967295) (hf0 : -9223372036854775808 ≤ fr) (hf1 : fr ≤ 9223372036854775807) (c0 : ¬ (fr < 0)) (c1 : ¬ (fr > 1099511626776)) : @EntOK (env (G5v2 a fr)) Try.prog G5e2_61 := by
  letI : Env := (env (G5v2 a fr))
  exact entArith (k := .i64) (a := (fr + 16)) (b := 1) (c := (fr + 17)) rfl rfl rfl (by show some (IntKind.i64.wrap ((fr + 16) + 1)) = some (fr + 17); (rw [IntWalk.i64_in _ (by first | omega | (simp only [sumVal, oct.sumF, oct.F, oct.ws]; omega))]) <;> exact congrArg some (by omega))
theorem G5e2_62_ok (a fr : Int) (ha0 : 0 ≤ a) (ha1 : a ≤ 4294967295) (hf0 : -9223372036854775808 ≤ fr) (hf1 : fr ≤ 9223372036854775807) (c0 : ¬ (fr < 0)) (c1 : ¬ (fr > 1099511626776)) : @EntOK (env (G5v2 a fr)) Try.prog G5e2_62 := by
  letI : Env := (env (G5v2 a fr))
  exact entCmp (k := .i64) (a := (fr + 17)) (b := (fr + 1000)) rfl rfl (by show some (decide (((fr + 17) : Int) ≤ (fr + 1000))) = some true; rw [decide_eq_true (by first | omega | (simp only [sumVal, oct.sumF, oct.F, oct.ws]; omega))])
theorem G5e2_63_ok (a fr : Int) (ha0 : 0 ≤ a) (ha1 : a ≤ 4294967295) (hf0 : -9223372036854775808 ≤ fr) (hf1 : fr ≤ 9223372036854775807) (c0 : ¬ (fr < 0)) (c1 : ¬ (fr > 1099511626776)) : @EntOK (env (G5v2 a fr)) Try.prog G5e2_63 := by
  letI : Env := (env (G5v2 a fr))
  exact entCmp (k := .i64) (a := (fr + 20)) (b := (fr + 17)) rfl rfl (by show some (decide (((fr + 20) : Int) > (fr + 17))) = some true; rw [decide_eq_true (by first | omega | (simp only [sumVal, oct.sumF, oct.F, oct.ws]; omega))])
theorem G5e2_64_ok (a fr : Int) (ha0 : 0 ≤ a) (ha1 : a ≤ 4294967295) (hf0 : -9223372036854775808 ≤ fr) (hf1 : fr ≤ 9223372036854775807) (c0 : ¬ (fr < 0)) (c1 : ¬ (fr > 1099511626776)) : @EntOK (env (G5v2 a fr)) Try.prog G5e2_64 := by
  letI : Env := (env (G5v2 a fr))
  exact entArith (k := .i64) (a := (fr + 17)) (b := 1) (c := (fr + 18)) rfl rfl rfl (by show some (IntKind.i64.wrap ((fr + 17) + 1)) = some (fr + 18); (rw [IntWalk.i64_in _ (by first | omega | (simp only [sumVal, oct.sumF, oct.F, oct.ws]; omega))]) <;> exact congrArg some (by omega))
theorem G5e2_65_ok (a fr : Int) (ha0 : 0 ≤ a) (ha1 : a ≤ 4294967295) (hf0 : -9223372036854775808 ≤ fr) (hf1 : fr ≤ 9223372036854775807) (c0 : ¬ (fr < 0)) (c1 : ¬ (fr > 1099511626776)) : @EntOK (env (G5v2 a fr)) Try.prog G5e2_65 := by
  letI : Env := (env (G5v2 a fr))
  exact entCmp (k := .i64) (a := (fr + 18)) (b := (fr + 1000)) rfl rfl (by show some (decide (((fr + 18) : Int) ≤ (fr + 1000))) = some true; rw [decide_eq_true (by first | omega | (simp only [sumVal, oct.sumF, oct.F, oct.ws]; omega))])
theorem G5e2_66_ok (a fr : Int) (ha0 : 0 ≤ a) (ha1 : a ≤ 4294967295) (hf0 : -9223372036854775808 ≤ fr) (hf1 : fr ≤ 9223372036854775807) (c0 : ¬ (fr < 0)) (c1 : ¬ (fr > 1099511626776)) : @EntOK (env (G5v2 a fr)) Try.prog G5e2_66 := by
  letI : Env := (env (G5v2 a fr))
  exact entCmp (k := .i64) (a := (fr + 20)) (b := (fr + 18)) rfl rfl (by show some (decide (((fr + 20) : Int) > (fr + 18))) = some true; rw [decide_eq_true (by first | omega | (simp only [sumVal, oct.sumF, oct.F, oct.ws]; omega))])
theorem G5e2_67_ok (a fr : Int) (ha0 : 0 ≤ a) (ha1 : a ≤ 4294967295) (hf0 : -9223372036854775808 ≤ fr) (hf1 : fr ≤ 9223372036854775807) (c0 : ¬ (fr < 0)) (c1 : ¬ (fr > 1099511626776)) : @EntOK (env (G5v2 a fr)) Try.prog G5e2_67 := by
  letI : Env := (env (G5v2 a fr))
  exact entArith (k := .i64) (a := (fr + 18)) (b := 1) (c := (fr + 19)) rfl rfl rfl (by show some (IntKind.i64.wrap ((fr + 18) + 1)) = some (fr + 19); (rw [IntWalk.i64_in _ (by first | omega | (simp only [sumVal, oct.sumF, oct.F, oct.ws]; omega))]) <;> exact congrArg some (by omega))
theorem G5e2_68_ok (a fr : Int) (ha0 : 0 ≤ a) (ha1 : a ≤ 4294967295) (hf0 : -9223372036854775808 ≤ fr) (hf1 : fr ≤ 9223372036854775807) (c0 : ¬ (fr < 0)) (c1 : ¬ (fr > 1099511626776)) : @EntOK (env (G5v2 a fr)) Try.prog G5e2_68 := by
  letI : Env := (env (G5v2 a fr))
  exact entCmp (k := .i64) (a := (fr + 19)) (b := (fr + 1000)) rfl rfl (by show some (decide (((fr + 19) : Int) ≤ (fr + 1000))) = some true; rw [decide_eq_true (by first | omega | (simp only [sumVal, oct.sumF, oct.F, oct.ws]; omega))])
theorem G5e2_69_ok (a fr : Int) (ha0 : 0 ≤ a) (ha1 : a ≤ 4294967295) (hf0 : -9223372036854775808 ≤ fr) (hf1 : fr ≤ 9223372036854775807) (c0 : ¬ (fr < 0)) (c1 : ¬ (fr > 1099511626776)) : @EntOK (env (G5v2 a fr)) Try.prog G5e2_69 := by
  letI : Env := (env (G5v2 a fr))
  exact entCmp (k := .i64) (a := (fr + 20)) (b := (fr + 19)) rfl rfl (by show some (decide (((fr + 20) : Int) > (fr + 19))) = some true; rw [decide_eq_true (by first | omega | (simp only [sumVal, oct.sumF, oct.F, oct.ws]; omega))])
theorem G5e2_70_ok (a fr : Int) (ha0 : 0 ≤ a) (ha1 : a ≤ 4294967295) (hf0 : -9223372036854775808 ≤ fr) (hf1 : fr ≤ 9223372036854775807) (c0 : ¬ (fr < 0)) (c1 : ¬ (fr > 1099511626776)) : @EntOK (env (G5v2 a fr)) Try.prog G5e2_70 := by
  letI : Env := (env (G5v2 a fr))
  exact entArith (k := .i64) (a := (fr + 19)) (b := 1) (c := (fr + 20)) rfl rfl rfl (by show some (IntKind.i64.wrap ((fr + 19) + 1)) = some (fr + 20); (rw [IntWalk.i64_in _ (by first | omega | (simp only [sumVal, oct.sumF, oct.F, oct.ws]; omega))]) <;> exact congrArg some (by omega))
theorem G5e2_71_ok (a fr : Int) (ha0 : 0 ≤ a) (ha1 : a ≤ 4294967295) (hf0 : -9223372036854775808 ≤ fr) (hf1 : fr ≤ 9223372036854775807) (c0 : ¬ (fr < 0)) (c1 : ¬ (fr > 1099511626776)) : @EntOK (env (G5v2 a fr)) Try.prog G5e2_71 := by
  letI : Env := (env (G5v2 a fr))
  exact entCmp (k := .i64) (a := (fr + 20)) (b := (fr + 1000)) rfl rfl (by show some (decide (((fr + 20) : Int) ≤ (fr + 1000))) = some true; rw [decide_eq_true (by first | omega | (simp only [sumVal, oct.sumF, oct.F, oct.ws]; omega))])
theorem G5e2_72_ok (a fr : Int) (ha0 : 0 ≤ a) (ha1 : a ≤ 4294967295) (hf0 : -9223372036854775808 ≤ fr) (hf1 : fr ≤ 9223372036854775807) (c0 : ¬ (fr < 0)) (c1 : ¬ (fr > 1099511626776)) : @EntOK (env (G5v2 a fr)) Try.prog G5e2_72 := by
  letI : Env := (env (G5v2 a fr))
  exact entCmp (k := .i64) (a := (fr + 20)) (b := (fr + 20)) rfl rfl (by show some (decide (((fr + 20) : Int) > (fr + 20))) = some false; rw [decide_eq_false (by first | omega | (simp only [sumVal, oct.sumF, oct.F, oct.ws]; omega))])
theorem G5e2_73_ok (a fr : Int) (ha0 : 0 ≤ a) (ha1 : a ≤ 4294967295) (hf0 : -9223372036854775808 ≤ fr) (hf1 : fr ≤ 9223372036854775807) (c0 : ¬ (fr < 0)) (c1 : ¬ (fr > 1099511626776)) : @EntOK (env (G5v2 a fr)) Try.prog G5e2_73 := by
  letI : Env := (env (G5v2 a fr))
  exact entCmp (k := .i64) (a := (fr + 20)) (b := 9223372036854775797) rfl rfl (by show some (decide (((fr + 20) : Int) > 9223372036854775797)) = some false; rw [decide_eq_false (by first | omega | (simp only [sumVal, oct.sumF, oct.F, oct.ws]; omega))])
theorem G5e2_74_ok (a fr : Int) (ha0 : 0 ≤ a) (ha1 : a ≤ 4294967295) (hf0 : -9223372036854775808 ≤ fr) (hf1 : fr ≤ 9223372036854775807) (c0 : ¬ (fr < 0)) (c1 : ¬ (fr > 1099511626776)) : @EntOK (env (G5v2 a fr)) Try.prog G5e2_74 := by
  letI : Env := (env (G5v2 a fr))
  exact entArith (k := .i64) (a := (fr + 20)) (b := 10) (c := (fr + 30)) rfl rfl rfl (by show some (IntKind.i64.wrap ((fr + 20) + 10)) = some (fr + 30); (rw [IntWalk.i64_in _ (by first | omega | (simp only [sumVal, oct.sumF, oct.F, oct.ws]; omega))]) <;> exact congrArg some (by omega))
theorem G5e2_75_ok (a fr : Int) (ha0 : 0 ≤ a) (ha1 : a ≤ 4294967295) (hf0 : -9223372036854775808 ≤ fr) (hf1 : fr ≤ 9223372036854775807) (c0 : ¬ (fr < 0)) (c1 : ¬ (fr > 1099511626776)) : @EntOK (env (G5v2 a fr)) Try.prog G5e2_75 := by
  letI : Env := (env (G5v2 a fr))
  exact entArith (k := .i64) (a := (fr + 20)) (b := fr) (c := 20) rfl rfl rfl (by show some (IntKind.i64.wrap ((fr + 20) - fr)) = some (20); (rw [IntWalk.i64_in _ (by first | omega | (simp only [sumVal, oct.sumF, oct.F, oct.ws]; omega))]) <;> exact congrArg some (by omega))
theorem G5e2_76_ok (a fr : Int) (ha0 : 0 ≤ a) (ha1 : a ≤ 4294967295) (hf0 : -9223372036854775808 ≤ fr) (hf1 : fr ≤ 9223372036854775807) (c0 : ¬ (fr < 0)) (c1 : ¬ (fr > 1099511626776)) : @EntOK (env (G5v2 a fr)) Try.prog G5e2_76 := by
  letI : Env := (env (G5v2 a fr))
  exact (by have h := entRem (P := Try.prog) (x := .chan (some 28)) (y := .int .i64 10) (k := .i64) (a := 20) (b := 10) (j := 29) rfl rfl (by rw [Int.tmod_eq_emod_of_nonneg (by first | omega | (simp only [sumVal, oct.sumF, oct.F, oct.ws]; omega))]; rfl) (by omega); exact h)
theorem G5e2_77_ok (a fr : Int) (ha0 : 0 ≤ a) (ha1 : a ≤ 4294967295) (hf0 : -9223372036854775808 ≤ fr) (hf1 : fr ≤ 9223372036854775807) (c0 : ¬ (fr < 0)) (c1 : ¬ (fr > 1099511626776)) : @EntOK (env (G5v2 a fr)) Try.prog G5e2_77 := by
  letI : Env := (env (G5v2 a fr))
  exact entCmp (k := .i64) (a := (20 % 10)) (b := 0) rfl rfl (by show some (((20 % 10) : Int) != 0) = some false; rw [bne_eq_false_iff_eq.2 (by first | omega | (simp only [sumVal, oct.sumF, oct.F, oct.ws]; omega))])
theorem G5e2_78_ok (a fr : Int) (ha0 : 0 ≤ a) (ha1 : a ≤ 4294967295) (hf0 : -9223372036854775808 ≤ fr) (hf1 : fr ≤ 9223372036854775807) (c0 : ¬ (fr < 0)) (c1 : ¬ (fr > 1099511626776)) : @EntOK (env (G5v2 a fr)) Try.prog G5e2_78 := by
  letI : Env := (env (G5v2 a fr))
  exact entArith (k := .i64) (a := (fr + 20)) (b := 1) (c := (fr + 21)) rfl rfl rfl (by show some (IntKind.i64.wrap ((fr + 20) + 1)) = some (fr + 21); (rw [IntWalk.i64_in _ (by first | omega | (simp only [sumVal, oct.sumF, oct.F, oct.ws]; omega))]) <;> exact congrArg some (by omega))
theorem G5e2_79_ok (a fr : Int) (ha0 : 0 ≤ a) (ha1 : a ≤ 4294967295) (hf0 : -9223372036854775808 ≤ fr) (hf1 : fr ≤ 9223372036854775807) (c0 : ¬ (fr < 0)) (c1 : ¬ (fr > 1099511626776)) : @EntOK (env (G5v2 a fr)) Try.prog G5e2_79 := by
  letI : Env := (env (G5v2 a fr))
  exact entCmp (k := .i64) (a := (fr + 21)) (b := (fr + 1000)) rfl rfl (by show some (decide (((fr + 21) : Int) ≤ (fr + 1000))) = some true; rw [decide_eq_true (by first | omega | (simp only [sumVal, oct.sumF, oct.F, oct.ws]; omega))])
theorem G5e2_80_ok (a fr : Int) (ha0 : 0 ≤ a) (ha1 : a ≤ 4294967295) (hf0 : -9223372036854775808 ≤ fr) (hf1 : fr ≤ 9223372036854775807) (c0 : ¬ (fr < 0)) (c1 : ¬ (fr > 1099511626776)) : @EntOK (env (G5v2 a fr)) Try.prog G5e2_80 := by
  letI : Env := (env (G5v2 a fr))
  exact entCmp (k := .i64) (a := (fr + 30)) (b := (fr + 21)) rfl rfl (by show some (decide (((fr + 30) : Int) > (fr + 21))) = some true; rw [decide_eq_true (by first | omega | (simp only [sumVal, oct.sumF, oct.F, oct.ws]; omega))])
theorem G5e2_81_ok (a fr : Int) (ha0 : 0 ≤ a) (ha1 : a ≤ 4294967295) (hf0 : -9223372036854775808 ≤ fr) (hf1 : fr ≤ 9223372036854775807) (c0 : ¬ (fr < 0)) (c1 : ¬ (fr > 1099511626776)) : @EntOK (env (G5v2 a fr)) Try.prog G5e2_81 := by
  letI : Env := (env (G5v2 a fr))
  exact entArith (k := .i64) (a := (fr + 21)) (b := 1) (c := (fr + 22)) rfl rfl rfl (by show some (IntKind.i64.wrap ((fr + 21) + 1)) = some (fr + 22); (rw [IntWalk.i64_in _ (by first | omega | (simp only [sumVal, oct.sumF, oct.F, oct.ws]; omega))]) <;> exact congrArg some (by omega))
theorem G5e2_82_ok (a fr : Int) (ha0 : 0 ≤ a) (ha1 : a ≤ 4294967295) (hf0 : -9223372036854775808 ≤ fr) (hf1 : fr ≤ 9223372036854775807) (c0 : ¬ (fr < 0)) (c1 : ¬ (fr > 1099511626776)) : @EntOK (env (G5v2 a fr)) Try.prog G5e2_82 := by
  letI : Env := (env (G5v2 a fr))
  exact entCmp (k := .i64) (a := (fr + 22)) (b := (fr + 1000)) rfl rfl (by show some (decide (((fr + 22) : Int) ≤ (fr + 1000))) = some true; rw [decide_eq_true (by first | omega | (simp only [sumVal, oct.sumF, oct.F, oct.ws]; omega))])
theorem G5e2_83_ok (a fr : Int) (ha0 : 0 ≤ a) (ha1 : a ≤ 4294967295) (hf0 : -9223372036854775808 ≤ fr) (hf1 : fr ≤ 9223372036854775807) (c0 : ¬ (fr < 0)) (c1 : ¬ (fr > 1099511626776)) : @EntOK (env (G5v2 a fr)) Try.prog G5e2_83 := by
  letI : Env := (env (G5v2 a fr))
  exact entCmp (k := .i64) (a := (fr + 30)) (b := (fr + 22)) rfl rfl (by show some (decide (((fr + 30) : Int) > (fr + 22))) = some true; rw [decide_eq_true (by first | omega | (simp only [sumVal, oct.sumF, oct.F, oct.ws]; omega))])
theorem G5e2_84_ok (a fr : Int) (ha0 : 0 ≤ a) (ha1 : a ≤ 4294967295) (hf0 : -9223372036854775808 ≤ fr) (hf1 : fr ≤ 9223372036854775807) (c0 : ¬ (fr < 0)) (c1 : ¬ (fr > 1099511626776)) : @EntOK (env (G5v2 a fr)) Try.prog G5e2_84 := by
  letI : Env := (env (G5v2 a fr))
  exact entArith (k := .i64) (a := (fr + 22)) (b := 1) (c := (fr + 23)) rfl rfl rfl (by show some (IntKind.i64.wrap ((fr + 22) + 1)) = some (fr + 23); (rw [IntWalk.i64_in _ (by first | omega | (simp only [sumVal, oct.sumF, oct.F, oct.ws]; omega))]) <;> exact congrArg some (by omega))
theorem G5e2_85_ok (a fr : Int) (ha0 : 0 ≤ a) (ha1 : a ≤ 4294967295) (hf0 : -9223372036854775808 ≤ fr) (hf1 : fr ≤ 9223372036854775807) (c0 : ¬ (fr < 0)) (c1 : ¬ (fr > 1099511626776)) : @EntOK (env (G5v2 a fr)) Try.prog G5e2_85 := by
  letI : Env := (env (G5v2 a fr))
  exact entCmp (k := .i64) (a := (fr + 23)) (b := (fr + 1000)) rfl rfl (by show some (decide (((fr + 23) : Int) ≤ (fr + 1000))) = some true; rw [decide_eq_true (by first | omega | (simp only [sumVal, oct.sumF, oct.F, oct.ws]; omega))])
theorem G5e2_86_ok (a fr : Int) (ha0 : 0 ≤ a) (ha1 : a ≤ 4294967295) (hf0 : -9223372036854775808 ≤ fr) (hf1 : fr ≤ 9223372036854775807) (c0 : ¬ (fr < 0)) (c1 : ¬ (fr > 1099511626776)) : @EntOK (env (G5v2 a fr)) Try.prog G5e2_86 := by
  letI : Env := (env (G5v2 a fr))
  exact entCmp (k := .i64) (a := (fr + 30)) (b := (fr + 23)) rfl rfl (by show some (decide (((fr + 30) : Int) > (fr + 23))) = some true; rw [decide_eq_true (by first | omega | (simp only [sumVal, oct.sumF, oct.F, oct.ws]; omega))])
theorem G5e2_87_ok (a fr : Int) (ha0 : 0 ≤ a) (ha1 : a ≤ 4294967295) (hf0 : -9223372036854775808 ≤ fr) (hf1 : fr ≤ 9223372036854775807) (c0 : ¬ (fr < 0)) (c1 : ¬ (fr > 1099511626776)) : @EntOK (env (G5v2 a fr)) Try.prog G5e2_87 := by
  letI : Env := (env (G5v2 a fr))
  exact entArith (k := .i64) (a := (fr + 23)) (b := 1) (c := (fr + 24)) rfl rfl rfl (by show some (IntKind.i64.wrap ((fr + 23) + 1)) = some (fr + 24); (rw [IntWalk.i64_in _ (by first | omega | (simp only [sumVal, oct.sumF, oct.F, oct.ws]; omega))]) <;> exact congrArg some (by omega))
theorem G5e2_88_ok (a fr : Int) (ha0 : 0 ≤ a) (ha1 : a ≤ 4294967295) (hf0 : -9223372036854775808 ≤ fr) (hf1 : fr ≤ 9223372036854775807) (c0 : ¬ (fr < 0)) (c1 : ¬ (fr > 1099511626776)) : @EntOK (env (G5v2 a fr)) Try.prog G5e2_88 := by
  letI : Env := (env (G5v2 a fr))
  exact entCmp (k := .i64) (a := (fr + 24)) (b := (fr + 1000)) rfl rfl (by show some (decide (((fr + 24) : Int) ≤ (fr + 1000))) = some true; rw [decide_eq_true (by first | omega | (simp only [sumVal, oct.sumF, oct.F, oct.ws]; omega))])
theorem G5e2_89_ok (a fr : Int) (ha0 : 0 ≤ a) (ha1 : a ≤ 4294967295) (hf0 : -9223372036854775808 ≤ fr) (hf1 : fr ≤ 9223372036854775807) (c0 : ¬ (fr < 0)) (c1 : ¬ (fr > 1099511626776)) : @EntOK (env (G5v2 a fr)) Try.prog G5e2_89 := by
  letI : Env := (env (G5v2 a fr))
  exact entCmp (k := .i64) (a := (fr + 30)) (b := (fr + 24)) rfl rfl (by show some (decide (((fr + 30) : Int) > (fr + 24))) = some true; rw [decide_eq_true (by first | omega | (simp only [sumVal, oct.sumF, oct.F, oct.ws]; omega))])
theorem G5e2_90_ok (a fr : Int) (ha0 : 0 ≤ a) (ha1 : a ≤ 4294967295) (hf0 : -9223372036854775808 ≤ fr) (hf1 : fr ≤ 9223372036854775807) (c0 : ¬ (fr < 0)) (c1 : ¬ (fr > 1099511626776)) : @EntOK (env (G5v2 a fr)) Try.prog G5e2_90 := by
  letI : Env := (env (G5v2 a fr))
  exact entArith (k := .i64) (a := (fr + 24)) (b := 1) (c := (fr + 25)) rfl rfl rfl (by show some (IntKind.i64.wrap ((fr + 24) + 1)) = some (fr + 25); (rw [IntWalk.i64_in _ (by first | omega | (simp only [sumVal, oct.sumF, oct.F, oct.ws]; omega))]) <;> exact congrArg some (by omega))
theorem G5e2_91_ok (a fr : Int) (ha0 : 0 ≤ a) (ha1 : a ≤ 4294967295) (hf0 : -9223372036854775808 ≤ fr) (hf1 : fr ≤ 9223372036854775807) (c0 : ¬ (fr < 0)) (c1 : ¬ (fr > 1099511626776)) : @EntOK (env (G5v2 a fr)) Try.prog G5e2_91 := by
  letI : Env := (env (G5v2 a fr))
  exact entCmp (k := .i64) (a := (fr + 25)) (b := (fr + 1000)) rfl rfl (by show some (decide (((fr + 25) : Int) ≤ (fr + 1000))) = some true; rw [decide_eq_true (by first | omega | (simp only [sumVal, oct.sumF, oct.F, oct.ws]; omega))])
theorem G5e2_92_ok (a fr : Int) (ha0 : 0 ≤ a) (ha1 : a ≤ 4294967295) (hf0 : -9223372036854775808 ≤ fr) (hf1 : fr ≤ 9223372036854775807) (c0 : ¬ (fr < 0)) (c1 : ¬ (fr > 1099511626776)) : @EntOK (env (G5v2 a fr)) Try.prog G5e2_92 := by
  letI : Env := (env (G5v2 a fr))
  exact entCmp (k := .i64) (a := (fr + 30)) (b := (fr + 25)) rfl rfl (by show some (decide (((fr + 30) : Int) > (fr + 25))) = some true; rw [decide_eq_true (by first | omega | (simp only [sumVal, oct.sumF, oct.F, oct.ws]; omega))])
theorem G5e2_93_ok (a fr : Int) (ha0 : 0 ≤ a) (ha1 : a ≤ 4294967295) (hf0 : -9223372036854775808 ≤ fr) (hf1 : fr ≤ 9223372036854775807) (c0 : ¬ (fr < 0)) (c1 : ¬ (fr > 1099511626776)) : @EntOK (env (G5v2 a fr)) Try.prog G5e2_93 := by
  letI : Env := (env (G5v2 a fr))
  exact entArith (k := .i64) (a := (fr + 25)) (b := 1) (c := (fr + 26)) rfl rfl rfl (by show some (IntKind.i64.wrap ((fr + 25) + 1)) = some (fr + 26); (rw [IntWalk.i64_in _ (by first | omega | (simp only [sumVal, oct.sumF, oct.F, oct.ws]; omega))]) <;> exact congrArg some (by omega))
theorem G5e2_94_ok (a fr : Int) (ha0 : 0 ≤ a) (ha1 : a ≤ 4294967295) (hf0 : -9223372036854775808 ≤ fr) (hf1 : fr ≤ 9223372036854775807) (c0 : ¬ (fr < 0)) (c1 : ¬ (fr > 1099511626776)) : @EntOK (env (G5v2 a fr)) Try.prog G5e2_94 := by
  letI : Env := (env (G5v2 a fr))
  exact entCmp (k := .i64) (a := (fr + 26)) (b := (fr + 1000)) rfl rfl (by show some (decide (((fr + 26) : Int) ≤ (fr + 1000))) = some true; rw [decide_eq_true (by first | omega | (simp only [sumVal, oct.sumF, oct.F, oct.ws]; omega))])
theorem G5e2_95_ok (a fr : Int) (ha0 : 0 ≤ a) (ha1 : a ≤ 4294967295) (hf0 : -9223372036854775808 ≤ fr) (hf1 : fr ≤ 9223372036854775807) (c0 : ¬ (fr < 0)) (c1 : ¬ (fr > 1099511626776)) : @EntOK (env (G5v2 a fr)) Try.prog G5e2_95 := by
  letI : Env := (env (G5v2 a fr))
  exact entCmp (k := .i64) (a := (fr + 30)) (b := (fr + 26)) rfl rfl (by show some (decide (((fr + 30) : Int) > (fr + 26))) = some true; rw [decide_eq_true (by first | omega | (simp only [sumVal, oct.sumF, oct.F, oct.ws]; omega))])
theorem G5e2_96_ok (a fr : Int) (ha0 : 0 ≤ a) (ha1 : a ≤ 4294967295) (hf0 : -9223372036854775808 ≤ fr) (hf1 : fr ≤ 9223372036854775807) (c0 : ¬ (fr < 0)) (c1 : ¬ (fr > 1099511626776)) : @EntOK (env (G5v2 a fr)) Try.prog G5e2_96 := by
  letI : Env := (env (G5v2 a fr))
  exact entArith (k := .i64) (a := (fr + 26)) (b := 1) (c := (fr + 27)) rfl rfl rfl (by show some (IntKind.i64.wrap ((fr + 26) + 1)) = some (fr + 27); (rw [IntWalk.i64_in _ (by first | omega | (simp only [sumVal, oct.sumF, oct.F, oct.ws]; omega))]) <;> exact congrArg some (by omega))
theorem G5e2_97_ok (a fr : Int) (ha0 : 0 ≤ a) (ha1 : a ≤ 4294967295) (hf0 : -9223372036854775808 ≤ fr) (hf1 : fr ≤ 9223372036854775807) (c0 : ¬ (fr < 0)) (c1 : ¬ (fr > 1099511626776)) : @EntOK (env (G5v2 a fr)) Try.prog G5e2_97 := by
  letI : Env := (env (G5v2 a fr))
  exact entCmp (k := .i64) (a := (fr + 27)) (b := (fr + 1000)) rfl rfl (by show some (decide (((fr + 27) : Int) ≤ (fr + 1000))) = some true; rw [decide_eq_true (by first | omega | (simp only [sumVal, oct.sumF, oct.F, oct.ws]; omega))])
theorem G5e2_98_ok (a fr : Int) (ha0 : 0 ≤ a) (ha1 : a ≤ 4294967295) (hf0 : -9223372036854775808 ≤ fr) (hf1 : fr ≤ 9223372036854775807) (c0 : ¬ (fr < 0)) (c1 : ¬ (fr > 1099511626776)) : @EntOK (env (G5v2 a fr)) Try.prog G5e2_98 := by
  letI : Env := (env (G5v2 a fr))
  exact entCmp (k := .i64) (a := (fr + 30)) (b := (fr + 27)) rfl rfl (by show some (decide (((fr + 30) : Int) > (fr + 27))) = some true; rw [decide_eq_true (by first | omega | (simp only [sumVal, oct.sumF, oct.F, oct.ws]; omega))])
theorem G5e2_99_ok (a fr : Int) (ha0 : 0 ≤ a) (ha1 : a ≤ 4294967295) (hf0 : -9223372036854775808 ≤ fr) (hf1 : fr ≤ 9223372036854775807) (c0 : ¬ (fr < 0)) (c1 : ¬ (fr > 1099511626776)) : @EntOK (env (G5v2 a fr)) Try.prog G5e2_99 := by
  letI : Env := (env (G5v2 a fr))
  exact entArith (k := .i64) (a := (fr + 27)) (b := 1) (c := (fr + 28)) rfl rfl rfl (by show some (IntKind.i64.wrap ((fr + 27) + 1)) = some (fr + 28); (rw [IntWalk.i64_in _ (by first | omega | (simp only [sumVal, oct.sumF, oct.F, oct.ws]; omega))]) <;> exact congrArg some (by omega))
theorem G5e2_100_ok (a fr : Int) (ha0 : 0 ≤ a) (ha1 : a ≤ 4294967295) (hf0 : -9223372036854775808 ≤ fr) (hf1 : fr ≤ 9223372036854775807) (c0 : ¬ (fr < 0)) (c1 : ¬ (fr > 1099511626776)) : @EntOK (env (G5v2 a fr)) Try.prog G5e2_100 := by
  letI : Env := (env (G5v2 a fr))
  exact entCmp (k := .i64) (a := (fr + 28)) (b := (fr + 1000)) rfl rfl (by show some (decide (((fr + 28) : Int) ≤ (fr + 1000))) = some true; rw [decide_eq_true (by first | omega | (simp only [sumVal, oct.sumF, oct.F, oct.ws]; omega))])
theorem G5e2_101_ok (a fr : Int) (ha0 : 0 ≤ a) (ha1 : a ≤ 4294967295) (hf0 : -9223372036854775808 ≤ fr) (hf1 : fr ≤ 9223372036854775807) (c0 : ¬ (fr < 0)) (c1 : ¬ (fr > 1099511626776)) : @EntOK (env (G5v2 a fr)) Try.prog G5e2_101 := by
  letI : Env := (env (G5v2 a fr))
  exact entCmp (k := .i64) (a := (fr + 30)) (b := (fr + 28)) rfl rfl (by show some (decide (((fr + 30) : Int) > (fr + 28))) = some true; rw [decide_eq_true (by first | omega | (simp only [sumVal, oct.sumF, oct.F, oct.ws]; omega))])
theorem G5e2_102_ok (a fr : Int) (ha0 : 0 ≤ a) (ha1 : a ≤ 4294967295) (hf0 : -9223372036854775808 ≤ fr) (hf1 : fr ≤ 9223372036854775807) (c0 : ¬ (fr < 0)) (c1 : ¬ (fr > 1099511626776)) : @EntOK (env (G5v2 a fr)) Try.prog G5e2_102 := by
  letI : Env := (env (G5v2 a fr))
  exact entArith (k := .i64) (a := (fr + 28)) (b := 1) (c := (fr + 29)) rfl rfl rfl (by show some (IntKind.i64.wrap ((fr + 28) + 1)) = some (fr + 29); (rw [IntWalk.i64_in _ (by first | omega | (simp only [sumVal, oct.sumF, oct.F, oct.ws]; omega))]) <;> exact congrArg some (by omega))
theorem G5e2_103_ok (a fr : Int) (ha0 : 0 ≤ a) (ha1 : a ≤ 4294967295) (hf0 : -9223372036854775808 ≤ fr) (hf1 : fr ≤ 9223372036854775807) (c0 : ¬ (fr < 0)) (c1 : ¬ (fr > 1099511626776)) : @EntOK (env (G5v2 a fr)) Try.prog G5e2_103 := by
  letI : Env := (env (G5v2 a fr))
  exact entCmp (k := .i64) (a := (fr + 29)) (b := (fr + 1000)) rfl rfl (by show some (decide (((fr + 29) : Int) ≤ (fr + 1000))) = some true; rw [decide_eq_true (by first | omega | (simp only [sumVal, oct.sumF, oct.F, oct.ws]; omega))])
theorem G5e2_104_ok (a fr : Int) (ha0 : 0 ≤ a) (ha1 : a ≤ 4294967295) (hf0 : -9223372036854775808 ≤ fr) (hf1 : fr ≤ 9223372036854775807) (c0 : ¬ (fr < 0)) (c1 : ¬ (fr > 1099511626776)) : @EntOK (env (G5v2 a fr)) Try.prog G5e2_104 := by
  letI : Env := (env (G5v2 a fr))
  exact entCmp (k := .i64) (a := (fr + 30)) (b := (fr + 29)) rfl rfl (by show some (decide (((fr + 30) : Int) > (fr + 29))) = some true; rw [decide_eq_true (by first | omega | (simp only [sumVal, oct.sumF, oct.F, oct.ws]; omega))])
theorem G5e2_105_ok (a fr : Int) (ha0 : 0 ≤ a) (ha1 : a ≤ 4294967295) (hf0 : -9223372036854775808 ≤ fr) (hf1 : fr ≤ 9223372036854775807) (c0 : ¬ (fr < 0)) (c1 : ¬ (fr > 1099511626776)) : @EntOK (env (G5v2 a fr)) Try.prog G5e2_105 := by
  letI : Env := (env (G5v2 a fr))
  exact entArith (k := .i64) (a := (fr + 29)) (b := 1) (c := (fr + 30)) rfl rfl rfl (by show some (IntKind.i64.wrap ((fr + 29) + 1)) = some (fr + 30); (rw [IntWalk.i64_in _ (by first | omega | (simp only [sumVal, oct.sumF, oct.F, oct.ws]; omega))]) <;> exact congrArg some (by omega))
theorem G5e2_106_ok (a fr : Int) (ha0 : 0 ≤ a) (ha1 : a ≤ 4294967295) (hf0 : -9223372036854775808 ≤ fr) (hf1 : fr ≤ 9223372036854775807) (c0 : ¬ (fr < 0)) (c1 : ¬ (fr > 1099511626776)) : @EntOK (env (G5v2 a fr)) Try.prog G5e2_106 := by
  letI : Env := (env (G5v2 a fr))
  exact entCmp (k := .i64) (a := (fr + 30)) (b := (fr + 1000)) rfl rfl (by show some (decide (((fr + 30) : Int) ≤ (fr + 1000))) = some true; rw [decide_eq_true (by first | omega | (simp only [sumVal, oct.sumF, oct.F, oct.ws]; omega))])
theorem G5e2_107_ok (a fr : Int) (ha0 : 0 ≤ a) (ha1 : a ≤ 4294967295) (hf0 : -9223372036854775808 ≤ fr) (hf1 : fr ≤ 9223372036854775807) (c0 : ¬ (fr < 0)) (c1 : ¬ (fr > 1099511626776)) : @EntOK (env (G5v2 a fr)) Try.prog G5e2_107 := by
  letI : Env := (env (G5v2 a fr))
  exact entCmp (k := .i64) (a := (fr + 30)) (b := (fr + 30)) rfl rfl (by show some (decide (((fr + 30) : Int) > (fr + 30))) = some false; rw [decide_eq_false (by first | omega | (simp only [sumVal, oct.sumF, oct.F, oct.ws]; omega))])
theorem G5e2_108_ok (a fr : Int) (ha0 : 0 ≤ a) (ha1 : a ≤ 4294967295) (hf0 : -9223372036854775808 ≤ fr) (hf1 : fr ≤ 9223372036854775807) (c0 : ¬ (fr < 0)) (c1 : ¬ (fr > 1099511626776)) : @EntOK (env (G5v2 a fr)) Try.prog G5e2_108 := by
  letI : Env := (env (G5v2 a fr))
  exact entArith (k := .i64) (a := fr) (b := 30) (c := (fr + 30)) rfl rfl rfl (by show some (IntKind.i64.wrap (fr + 30)) = some (fr + 30); (rw [IntWalk.i64_in _ (by first | omega | (simp only [sumVal, oct.sumF, oct.F, oct.ws]; omega))]) <;> exact congrArg some (by omega))
theorem G5e2_109_ok (a fr : Int) (ha0 : 0 ≤ a) (ha1 : a ≤ 4294967295) (hf0 : -9223372036854775808 ≤ fr) (hf1 : fr ≤ 9223372036854775807) (c0 : ¬ (fr < 0)) (c1 : ¬ (fr > 1099511626776)) : @EntOK (env (G5v2 a fr)) Try.prog G5e2_109 := by
  letI : Env := (env (G5v2 a fr))
  exact entCmp (k := .i64) (a := (fr + 30)) (b := (fr + 30)) rfl rfl (by show some (((fr + 30) : Int) == (fr + 30)) = some true; rw [beq_iff_eq.2 (by first | omega | (simp only [sumVal, oct.sumF, oct.F, oct.ws]; omega))])
theorem G5e2_110_ok (a fr : Int) (ha0 : 0 ≤ a) (ha1 : a ≤ 4294967295) (hf0 : -9223372036854775808 ≤ fr) (hf1 : fr ≤ 9223372036854775807) (c0 : ¬ (fr < 0)) (c1 : ¬ (fr > 1099511626776)) : @EntOK (env (G5v2 a fr)) Try.prog G5e2_110 := by
  letI : Env := (env (G5v2 a fr))
  exact entCmp (k := .u32) (a := a) (b := a) rfl rfl (by show some ((a : Int) == a) = some true; rw [beq_iff_eq.2 (by first | omega | (simp only [sumVal, oct.sumF, oct.F, oct.ws]; omega))])
end Go.Proofs.Ytojechkpkjlgkaa.ev
