/-
  The table: each entry with its proof. Conditions: none.
-/
import Derived.Test.YtjehddcgbgfhdaaGreatEvHGfE
import Derived.KernelRfl
import Derived.DeepKeys
namespace Go.Proofs.YtjehddcgbgfhdaaGreat.ev
set_option maxRecDepth 1000000
set_option linter.unusedVariables false
set_option linter.unusedSimpArgs false
theorem HGfe0_0_ok (gg port : Int) (hg0 : 0 ≤ gg) (hg1 : gg ≤ 4294967295) (hp0 : -9223372036854775808 ≤ port) (hp1 : port ≤ 9223372036854775807) (hc : HGfK0 gg port) : @EntOK (env (HGfv0 gg port)) Tryz.prog HGfe0_0 := by
  letI : Env := (env (HGfv0 gg port))
  obtain ⟨c0, _⟩ := hc
  exact entCmp (k := .i64) (a := port) (b := 1) rfl rfl (by show some (decide ((port : Int) < 1)) = some true; rw [decide_eq_true (by first | omega | (simp only [sumVal, oct.sumF, oct.F, oct.ws]; omega) | (simp only [sumVal, oct.sumF, oct.F, oct.ws] at *; omega))])
theorem HGfe1_0_ok (gg port : Int) (hg0 : 0 ≤ gg) (hg1 : gg ≤ 4294967295) (hp0 : -9223372036854775808 ≤ port) (hp1 : port ≤ 9223372036854775807) (hc : HGfK1 gg port) : @EntOK (env (HGfv1 gg port)) Tryz.prog HGfe1_0 := by
  letI : Env := (env (HGfv1 gg port))
  obtain ⟨c0, c1, _⟩ := hc
  exact entCmp (k := .i64) (a := port) (b := 1) rfl rfl (by show some (decide ((port : Int) < 1)) = some false; rw [decide_eq_false (by first | omega | (simp only [sumVal, oct.sumF, oct.F, oct.ws]; omega) | (simp only [sumVal, oct.sumF, oct.F, oct.ws] at *; omega))])
theorem HGfe1_1_ok (gg port : Int) (hg0 : 0 ≤ gg) (hg1 : gg ≤ 4294967295) (hp0 : -9223372036854775808 ≤ port) (hp1 : port ≤ 9223372036854775807) (hc : HGfK1 gg port) : @EntOK (env (HGfv1 gg port)) Tryz.prog HGfe1_1 := by
  letI : Env := (env (HGfv1 gg port))
  obtain ⟨c0, c1, _⟩ := hc
  exact entCmp (k := .i64) (a := port) (b := 65535) rfl rfl (by show some (decide ((port : Int) > 65535)) = some true; rw [decide_eq_true (by first | omega | (simp only [sumVal, oct.sumF, oct.F, oct.ws]; omega) | (simp only [sumVal, oct.sumF, oct.F, oct.ws] at *; omega))])
theorem HGfe2_0_ok (gg port : Int) (hg0 : 0 ≤ gg) (hg1 : gg ≤ 4294967295) (hp0 : -9223372036854775808 ≤ port) (hp1 : port ≤ 9223372036854775807) (hc : HGfK2 gg port) : @EntOK (env (HGfv2 gg port)) Tryz.prog HGfe2_0 := by
  letI : Env := (env (HGfv2 gg port))
  obtain ⟨c0, c1, c2, _⟩ := hc
  exact entCmp (k := .i64) (a := port) (b := 1) rfl rfl (by show some (decide ((port : Int) < 1)) = some false; rw [decide_eq_false (by first | omega | (simp only [sumVal, oct.sumF, oct.F, oct.ws]; omega) | (simp only [sumVal, oct.sumF, oct.F, oct.ws] at *; omega))])
theorem HGfe2_1_ok (gg port : Int) (hg0 : 0 ≤ gg) (hg1 : gg ≤ 4294967295) (hp0 : -9223372036854775808 ≤ port) (hp1 : port ≤ 9223372036854775807) (hc : HGfK2 gg port) : @EntOK (env (HGfv2 gg port)) Tryz.prog HGfe2_1 := by
  letI : Env := (env (HGfv2 gg port))
  obtain ⟨c0, c1, c2, _⟩ := hc
  exact entCmp (k := .i64) (a := port) (b := 65535) rfl rfl (by show some (decide ((port : Int) > 65535)) = some false; rw [decide_eq_false (by first | omega | (simp only [sumVal, oct.sumF, oct.F, oct.ws]; omega) | (simp only [sumVal, oct.sumF, oct.F, oct.ws] at *; omega))])
theorem HGfe2_2_ok (gg port : Int) (hg0 : 0 ≤ gg) (hg1 : gg ≤ 4294967295) (hp0 : -9223372036854775808 ≤ port) (hp1 : port ≤ 9223372036854775807) (hc : HGfK2 gg port) : @EntOK (env (HGfv2 gg port)) Tryz.prog HGfe2_2 := by
  letI : Env := (env (HGfv2 gg port))
  obtain ⟨c0, c1, c2, _⟩ := hc
  exact entCmp (k := .u32) (a := gg) (b := 3758096385) rfl rfl (by show some (decide ((gg : Int) ≤ 3758096385)) = some true; rw [decide_eq_true (by first | omega | (simp only [sumVal, oct.sumF, oct.F, oct.ws]; omega) | (simp only [sumVal, oct.sumF, oct.F, oct.ws] at *; omega))])
theorem HGfe3_0_ok (gg port : Int) (hg0 : 0 ≤ gg) (hg1 : gg ≤ 4294967295) (hp0 : -9223372036854775808 ≤ port) (hp1 : port ≤ 9223372036854775807) (hc : HGfK3 gg port) : @EntOK (env (HGfv3 gg port)) Tryz.prog HGfe3_0 := by
  letI : Env := (env (HGfv3 gg port))
  obtain ⟨c0, c1, c2, c3, _⟩ := hc
  exact entCmp (k := .i64) (a := port) (b := 1) rfl rfl (by show some (decide ((port : Int) < 1)) = some false; rw [decide_eq_false (by first | omega | (simp only [sumVal, oct.sumF, oct.F, oct.ws]; omega) | (simp only [sumVal, oct.sumF, oct.F, oct.ws] at *; omega))])
theorem HGfe3_1_ok (gg port : Int) (hg0 : 0 ≤ gg) (hg1 : gg ≤ 4294967295) (hp0 : -9223372036854775808 ≤ port) (hp1 : port ≤ 9223372036854775807) (hc : HGfK3 gg port) : @EntOK (env (HGfv3 gg port)) Tryz.prog HGfe3_1 := by
  letI : Env := (env (HGfv3 gg port))
  obtain ⟨c0, c1, c2, c3, _⟩ := hc
  exact entCmp (k := .i64) (a := port) (b := 65535) rfl rfl (by show some (decide ((port : Int) > 65535)) = some false; rw [decide_eq_false (by first | omega | (simp only [sumVal, oct.sumF, oct.F, oct.ws]; omega) | (simp only [sumVal, oct.sumF, oct.F, oct.ws] at *; omega))])
theorem HGfe3_2_ok (gg port : Int) (hg0 : 0 ≤ gg) (hg1 : gg ≤ 4294967295) (hp0 : -9223372036854775808 ≤ port) (hp1 : port ≤ 9223372036854775807) (hc : HGfK3 gg port) : @EntOK (env (HGfv3 gg port)) Tryz.prog HGfe3_2 := by
  letI : Env := (env (HGfv3 gg port))
  obtain ⟨c0, c1, c2, c3, _⟩ := hc
  exact entCmp (k := .u32) (a := gg) (b := 3758096385) rfl rfl (by show some (decide ((gg : Int) ≤ 3758096385)) = some false; rw [decide_eq_false (by first | omega | (simp only [sumVal, oct.sumF, oct.F, oct.ws]; omega) | (simp only [sumVal, oct.sumF, oct.F, oct.ws] at *; omega))])
theorem HGfe3_3_ok (gg port : Int) (hg0 : 0 ≤ gg) (hg1 : gg ≤ 4294967295) (hp0 : -9223372036854775808 ≤ port) (hp1 : port ≤ 9223372036854775807) (hc : HGfK3 gg port) : @EntOK (env (HGfv3 gg port)) Tryz.prog HGfe3_3 := by
  letI : Env := (env (HGfv3 gg port))
  obtain ⟨c0, c1, c2, c3, _⟩ := hc
  exact entCmp (k := .u32) (a := gg) (b := 4026531840) rfl rfl (by show some (decide ((gg : Int) ≥ 4026531840)) = some true; rw [decide_eq_true (by first | omega | (simp only [sumVal, oct.sumF, oct.F, oct.ws]; omega) | (simp only [sumVal, oct.sumF, oct.F, oct.ws] at *; omega))])
theorem HGfe4_0_ok (gg port : Int) (hg0 : 0 ≤ gg) (hg1 : gg ≤ 4294967295) (hp0 : -9223372036854775808 ≤ port) (hp1 : port ≤ 9223372036854775807) (hc : HGfK4 gg port) : @EntOK (env (HGfv4 gg port)) Tryz.prog HGfe4_0 := by
  letI : Env := (env (HGfv4 gg port))
  obtain ⟨c0, c1, c2, c3, c4, c5, c6, c7, c8, c9, c10, c11, c12, c13, _⟩ := hc
  exact entCmp (k := .i64) (a := port) (b := 1) rfl rfl (by show some (decide ((port : Int) < 1)) = some false; rw [decide_eq_false (by first | omega | (simp only [sumVal, oct.sumF, oct.F, oct.ws]; omega) | (simp only [sumVal, oct.sumF, oct.F, oct.ws] at *; omega))])
theorem HGfe4_1_ok (gg port : Int) (hg0 : 0 ≤ gg) (hg1 : gg ≤ 4294967295) (hp0 : -9223372036854775808 ≤ port) (hp1 : port ≤ 9223372036854775807) (hc : HGfK4 gg port) : @EntOK (env (HGfv4 gg port)) Tryz.prog HGfe4_1 := by
  letI : Env := (env (HGfv4 gg port))
  obtain ⟨c0, c1, c2, c3, c4, c5, c6, c7, c8, c9, c10, c11, c12, c13, _⟩ := hc
  exact entCmp (k := .i64) (a := port) (b := 65535) rfl rfl (by show some (decide ((port : Int) > 65535)) = some false; rw [decide_eq_false (by first | omega | (simp only [sumVal, oct.sumF, oct.F, oct.ws]; omega) | (simp only [sumVal, oct.sumF, oct.F, oct.ws] at *; omega))])
theorem HGfe4_2_ok (gg port : Int) (hg0 : 0 ≤ gg) (hg1 : gg ≤ 4294967295) (hp0 : -9223372036854775808 ≤ port) (hp1 : port ≤ 9223372036854775807) (hc : HGfK4 gg port) : @EntOK (env (HGfv4 gg port)) Tryz.prog HGfe4_2 := by
  letI : Env := (env (HGfv4 gg port))
  obtain ⟨c0, c1, c2, c3, c4, c5, c6, c7, c8, c9, c10, c11, c12, c13, _⟩ := hc
  exact entCmp (k := .u32) (a := gg) (b := 3758096385) rfl rfl (by show some (decide ((gg : Int) ≤ 3758096385)) = some false; rw [decide_eq_false (by first | omega | (simp only [sumVal, oct.sumF, oct.F, oct.ws]; omega) | (simp only [sumVal, oct.sumF, oct.F, oct.ws] at *; omega))])
theorem HGfe4_3_ok (gg port : Int) (hg0 : 0 ≤ gg) (hg1 : gg ≤ 4294967295) (hp0 : -9223372036854775808 ≤ port) (hp1 : port ≤ 9223372036854775807) (hc : HGfK4 gg port) : @EntOK (env (HGfv4 gg port)) Tryz.prog HGfe4_3 := by
  letI : Env := (env (HGfv4 gg port))
  obtain ⟨c0, c1, c2, c3, c4, c5, c6, c7, c8, c9, c10, c11, c12, c13, _⟩ := hc
  exact entCmp (k := .u32) (a := gg) (b := 4026531840) rfl rfl (by show some (decide ((gg : Int) ≥ 4026531840)) = some false; rw [decide_eq_false (by first | omega | (simp only [sumVal, oct.sumF, oct.F, oct.ws]; omega) | (simp only [sumVal, oct.sumF, oct.F, oct.ws] at *; omega))])
theorem HGfe4_4_ok (gg port : Int) (hg0 : 0 ≤ gg) (hg1 : gg ≤ 4294967295) (hp0 : -9223372036854775808 ≤ port) (hp1 : port ≤ 9223372036854775807) (hc : HGfK4 gg port) : @EntOK (env (HGfv4 gg port)) Tryz.prog HGfe4_4 := by
  letI : Env := (env (HGfv4 gg port))
  obtain ⟨c0, c1, c2, c3, c4, c5, c6, c7, c8, c9, c10, c11, c12, c13, _⟩ := hc
  exact entCmp (k := .i64) (a := port) (b := 1) rfl rfl (by show some (decide ((port : Int) ≥ 1)) = some true; rw [decide_eq_true (by first | omega | (simp only [sumVal, oct.sumF, oct.F, oct.ws]; omega) | (simp only [sumVal, oct.sumF, oct.F, oct.ws] at *; omega))])
theorem HGfe4_5_ok (gg port : Int) (hg0 : 0 ≤ gg) (hg1 : gg ≤ 4294967295) (hp0 : -9223372036854775808 ≤ port) (hp1 : port ≤ 9223372036854775807) (hc : HGfK4 gg port) : @EntOK (env (HGfv4 gg port)) Tryz.prog HGfe4_5 := by
  letI : Env := (env (HGfv4 gg port))
  obtain ⟨c0, c1, c2, c3, c4, c5, c6, c7, c8, c9, c10, c11, c12, c13, _⟩ := hc
  exact entCmp (k := .i64) (a := port) (b := 65535) rfl rfl (by show some (decide ((port : Int) ≤ 65535)) = some true; rw [decide_eq_true (by first | omega | (simp only [sumVal, oct.sumF, oct.F, oct.ws]; omega) | (simp only [sumVal, oct.sumF, oct.F, oct.ws] at *; omega))])
theorem HGfe4_6_ok (gg port : Int) (hg0 : 0 ≤ gg) (hg1 : gg ≤ 4294967295) (hp0 : -9223372036854775808 ≤ port) (hp1 : port ≤ 9223372036854775807) (hc : HGfK4 gg port) : @EntOK (env (HGfv4 gg port)) Tryz.prog HGfe4_6 := by
  letI : Env := (env (HGfv4 gg port))
  obtain ⟨c0, c1, c2, c3, c4, c5, c6, c7, c8, c9, c10, c11, c12, c13, _⟩ := hc
  exact entCmp (k := .i64) (a := port) (b := 0) rfl rfl (by show some (decide ((port : Int) ≥ 0)) = some true; rw [decide_eq_true (by first | omega | (simp only [sumVal, oct.sumF, oct.F, oct.ws]; omega) | (simp only [sumVal, oct.sumF, oct.F, oct.ws] at *; omega))])
theorem HGfe4_7_ok (gg port : Int) (hg0 : 0 ≤ gg) (hg1 : gg ≤ 4294967295) (hp0 : -9223372036854775808 ≤ port) (hp1 : port ≤ 9223372036854775807) (hc : HGfK4 gg port) : @EntOK (env (HGfv4 gg port)) Tryz.prog HGfe4_7 := by
  letI : Env := (env (HGfv4 gg port))
  obtain ⟨c0, c1, c2, c3, c4, c5, c6, c7, c8, c9, c10, c11, c12, c13, _⟩ := hc
  exact entConvV (k := .u64) (l := .i64) (a := port) (c := (port % 18446744073709551616)) rfl rfl (by rw [IntKind.wrap_u64])
theorem HGfe4_8_ok (gg port : Int) (hg0 : 0 ≤ gg) (hg1 : gg ≤ 4294967295) (hp0 : -9223372036854775808 ≤ port) (hp1 : port ≤ 9223372036854775807) (hc : HGfK4 gg port) : @EntOK (env (HGfv4 gg port)) Tryz.prog HGfe4_8 := by
  letI : Env := (env (HGfv4 gg port))
  obtain ⟨c0, c1, c2, c3, c4, c5, c6, c7, c8, c9, c10, c11, c12, c13, _⟩ := hc
  exact entShrV (k := .u64) (l := .u64) (a := (port % 18446744073709551616)) (c := ((port % 18446744073709551616) / 256)) (s := 8) rfl rfl rfl (by decide) (by exact fdiv_nat _ 256)
theorem HGfe4_9_ok (gg port : Int) (hg0 : 0 ≤ gg) (hg1 : gg ≤ 4294967295) (hp0 : -9223372036854775808 ≤ port) (hp1 : port ≤ 9223372036854775807) (hc : HGfK4 gg port) : @EntOK (env (HGfv4 gg port)) Tryz.prog HGfe4_9 := by
  letI : Env := (env (HGfv4 gg port))
  obtain ⟨c0, c1, c2, c3, c4, c5, c6, c7, c8, c9, c10, c11, c12, c13, _⟩ := hc
  exact entConvV (k := .u8) (l := .u64) (a := ((port % 18446744073709551616) / 256)) (c := (((port % 18446744073709551616) / 256) % 256)) rfl rfl (by rw [IntKind.wrap_u8])
theorem HGfe4_10_ok (gg port : Int) (hg0 : 0 ≤ gg) (hg1 : gg ≤ 4294967295) (hp0 : -9223372036854775808 ≤ port) (hp1 : port ≤ 9223372036854775807) (hc : HGfK4 gg port) : @EntOK (env (HGfv4 gg port)) Tryz.prog HGfe4_10 := by
  letI : Env := (env (HGfv4 gg port))
  obtain ⟨c0, c1, c2, c3, c4, c5, c6, c7, c8, c9, c10, c11, c12, c13, _⟩ := hc
  exact entConvV (k := .u8) (l := .u64) (a := (port % 18446744073709551616)) (c := ((port % 18446744073709551616) % 256)) rfl rfl (by rw [IntKind.wrap_u8])
theorem HGfe4_11_ok (gg port : Int) (hg0 : 0 ≤ gg) (hg1 : gg ≤ 4294967295) (hp0 : -9223372036854775808 ≤ port) (hp1 : port ≤ 9223372036854775807) (hc : HGfK4 gg port) : @EntOK (env (HGfv4 gg port)) Tryz.prog HGfe4_11 := by
  letI : Env := (env (HGfv4 gg port))
  obtain ⟨c0, c1, c2, c3, c4, c5, c6, c7, c8, c9, c10, c11, c12, c13, _⟩ := hc
  exact entShrV (k := .u32) (l := .u64) (a := gg) (c := (gg / 16777216)) (s := 24) rfl rfl rfl (by decide) (by exact fdiv_nat _ 16777216)
theorem HGfe4_12_ok (gg port : Int) (hg0 : 0 ≤ gg) (hg1 : gg ≤ 4294967295) (hp0 : -9223372036854775808 ≤ port) (hp1 : port ≤ 9223372036854775807) (hc : HGfK4 gg port) : @EntOK (env (HGfv4 gg port)) Tryz.prog HGfe4_12 := by
  letI : Env := (env (HGfv4 gg port))
  obtain ⟨c0, c1, c2, c3, c4, c5, c6, c7, c8, c9, c10, c11, c12, c13, _⟩ := hc
  exact entConvV (k := .u8) (l := .u32) (a := (gg / 16777216)) (c := (gg / 16777216)) rfl rfl (by rw [IntWalk.u8_in _ (by first | omega | (simp only [sumVal, oct.sumF, oct.F, oct.ws]; omega) | (simp only [sumVal, oct.sumF, oct.F, oct.ws] at *; omega))])
theorem HGfe4_13_ok (gg port : Int) (hg0 : 0 ≤ gg) (hg1 : gg ≤ 4294967295) (hp0 : -9223372036854775808 ≤ port) (hp1 : port ≤ 9223372036854775807) (hc : HGfK4 gg port) : @EntOK (env (HGfv4 gg port)) Tryz.prog HGfe4_13 := by
  letI : Env := (env (HGfv4 gg port))
  obtain ⟨c0, c1, c2, c3, c4, c5, c6, c7, c8, c9, c10, c11, c12, c13, _⟩ := hc
  exact entShrV (k := .u32) (l := .u64) (a := gg) (c := (gg / 65536)) (s := 16) rfl rfl rfl (by decide) (by exact fdiv_nat _ 65536)
theorem HGfe4_14_ok (gg port : Int) (hg0 : 0 ≤ gg) (hg1 : gg ≤ 4294967295) (hp0 : -9223372036854775808 ≤ port) (hp1 : port ≤ 9223372036854775807) (hc : HGfK4 gg port) : @EntOK (env (HGfv4 gg port)) Tryz.prog HGfe4_14 := by
  letI : Env := (env (HGfv4 gg port))
  obtain ⟨c0, c1, c2, c3, c4, c5, c6, c7, c8, c9, c10, c11, c12, c13, _⟩ := hc
  exact entConvV (k := .u8) (l := .u32) (a := (gg / 65536)) (c := ((gg / 65536) % 256)) rfl rfl (by rw [IntKind.wrap_u8])
theorem HGfe4_15_ok (gg port : Int) (hg0 : 0 ≤ gg) (hg1 : gg ≤ 4294967295) (hp0 : -9223372036854775808 ≤ port) (hp1 : port ≤ 9223372036854775807) (hc : HGfK4 gg port) : @EntOK (env (HGfv4 gg port)) Tryz.prog HGfe4_15 := by
  letI : Env := (env (HGfv4 gg port))
  obtain ⟨c0, c1, c2, c3, c4, c5, c6, c7, c8, c9, c10, c11, c12, c13, _⟩ := hc
  exact entShrV (k := .u32) (l := .u64) (a := gg) (c := (gg / 256)) (s := 8) rfl rfl rfl (by decide) (by exact fdiv_nat _ 256)
theorem HGfe4_16_ok (gg port : Int) (hg0 : 0 ≤ gg) (hg1 : gg ≤ 4294967295) (hp0 : -9223372036854775808 ≤ port) (hp1 : port ≤ 9223372036854775807) (hc : HGfK4 gg port) : @EntOK (env (HGfv4 gg port)) Tryz.prog HGfe4_16 := by
  letI : Env := (env (HGfv4 gg port))
  obtain ⟨c0, c1, c2, c3, c4, c5, c6, c7, c8, c9, c10, c11, c12, c13, _⟩ := hc
  exact entConvV (k := .u8) (l := .u32) (a := (gg / 256)) (c := ((gg / 256) % 256)) rfl rfl (by rw [IntKind.wrap_u8])
theorem HGfe4_17_ok (gg port : Int) (hg0 : 0 ≤ gg) (hg1 : gg ≤ 4294967295) (hp0 : -9223372036854775808 ≤ port) (hp1 : port ≤ 9223372036854775807) (hc : HGfK4 gg port) : @EntOK (env (HGfv4 gg port)) Tryz.prog HGfe4_17 := by
  letI : Env := (env (HGfv4 gg port))
  obtain ⟨c0, c1, c2, c3, c4, c5, c6, c7, c8, c9, c10, c11, c12, c13, _⟩ := hc
  exact entConvV (k := .u8) (l := .u32) (a := gg) (c := (gg % 256)) rfl rfl (by rw [IntKind.wrap_u8])
theorem HGfe4_18_ok (gg port : Int) (hg0 : 0 ≤ gg) (hg1 : gg ≤ 4294967295) (hp0 : -9223372036854775808 ≤ port) (hp1 : port ≤ 9223372036854775807) (hc : HGfK4 gg port) : @EntOK (env (HGfv4 gg port)) Tryz.prog HGfe4_18 := by
  letI : Env := (env (HGfv4 gg port))
  obtain ⟨c0, c1, c2, c3, c4, c5, c6, c7, c8, c9, c10, c11, c12, c13, _⟩ := hc
  have bd0 := sumVal_bd true [10, 0, 0, 1, (gg / 16777216), ((gg / 65536) % 256), ((gg / 256) % 256), (gg % 256), 0, 17, 0, 9, 0, 5, (((port % 18446744073709551616) / 256) % 256), ((port % 18446744073709551616) % 256), 0, 9, 0, 0, 120] (by intro b hb; simp only [List.mem_cons, List.not_mem_nil, or_false] at hb; rcases hb with rfl | rfl | rfl | rfl | rfl | rfl | rfl | rfl | rfl | rfl | rfl | rfl | rfl | rfl | rfl | rfl | rfl | rfl | rfl | rfl | rfl <;> omega)
  exact entCmp (k := .i64) (a := (sumVal true [10, 0, 0, 1, (gg / 16777216), ((gg / 65536) % 256), ((gg / 256) % 256), (gg % 256), 0, 17, 0, 9, 0, 5, (((port % 18446744073709551616) / 256) % 256), ((port % 18446744073709551616) % 256), 0, 9, 0, 0, 120])) (b := 0) rfl rfl (by show some (((sumVal true [10, 0, 0, 1, (gg / 16777216), ((gg / 65536) % 256), ((gg / 256) % 256), (gg % 256), 0, 17, 0, 9, 0, 5, (((port % 18446744073709551616) / 256) % 256), ((port % 18446744073709551616) % 256), 0, 9, 0, 0, 120]) : Int) == 0) = some false; rw [beq_eq_false_iff_ne.2 (by first | omega | (simp only [sumVal, oct.sumF, oct.F, oct.ws]; omega) | (simp only [sumVal, oct.sumF, oct.F, oct.ws] at *; omega))])
theorem HGfe4_19_ok (gg port : Int) (hg0 : 0 ≤ gg) (hg1 : gg ≤ 4294967295) (hp0 : -9223372036854775808 ≤ port) (hp1 : port ≤ 9223372036854775807) (hc : HGfK4 gg port) : @EntOK (env (HGfv4 gg port)) Tryz.prog HGfe4_19 := by
  letI : Env := (env (HGfv4 gg port))
  obtain ⟨c0, c1, c2, c3, c4, c5, c6, c7, c8, c9, c10, c11, c12, c13, _⟩ := hc
  have bd0 := sumVal_bd true [10, 0, 0, 1, (gg / 16777216), ((gg / 65536) % 256), ((gg / 256) % 256), (gg % 256), 0, 17, 0, 9, 0, 5, (((port % 18446744073709551616) / 256) % 256), ((port % 18446744073709551616) % 256), 0, 9, 0, 0, 120] (by intro b hb; simp only [List.mem_cons, List.not_mem_nil, or_false] at hb; rcases hb with rfl | rfl | rfl | rfl | rfl | rfl | rfl | rfl | rfl | rfl | rfl | rfl | rfl | rfl | rfl | rfl | rfl | rfl | rfl | rfl | rfl <;> omega)
  exact entConvV (k := .u64) (l := .i64) (a := (sumVal true [10, 0, 0, 1, (gg / 16777216), ((gg / 65536) % 256), ((gg / 256) % 256), (gg % 256), 0, 17, 0, 9, 0, 5, (((port % 18446744073709551616) / 256) % 256), ((port % 18446744073709551616) % 256), 0, 9, 0, 0, 120])) (c := (sumVal true [10, 0, 0, 1, (gg / 16777216), ((gg / 65536) % 256), ((gg / 256) % 256), (gg % 256), 0, 17, 0, 9, 0, 5, (((port % 18446744073709551616) / 256) % 256), ((port % 18446744073709551616) % 256), 0, 9, 0, 0, 120])) rfl rfl (by rw [IntWalk.u64_in _ (by first | omega | (simp only [sumVal, oct.sumF, oct.F, oct.ws]; omega) | (simp only [sumVal, oct.sumF, oct.F, oct.ws] at *; omega))])
theorem HGfe4_20_ok (gg port : Int) (hg0 : 0 ≤ gg) (hg1 : gg ≤ 4294967295) (hp0 : -9223372036854775808 ≤ port) (hp1 : port ≤ 9223372036854775807) (hc : HGfK4 gg port) : @EntOK (env (HGfv4 gg port)) Tryz.prog HGfe4_20 := by
  letI : Env := (env (HGfv4 gg port))
  obtain ⟨c0, c1, c2, c3, c4, c5, c6, c7, c8, c9, c10, c11, c12, c13, _⟩ := hc
  have bd0 := sumVal_bd true [10, 0, 0, 1, (gg / 16777216), ((gg / 65536) % 256), ((gg / 256) % 256), (gg % 256), 0, 17, 0, 9, 0, 5, (((port % 18446744073709551616) / 256) % 256), ((port % 18446744073709551616) % 256), 0, 9, 0, 0, 120] (by intro b hb; simp only [List.mem_cons, List.not_mem_nil, or_false] at hb; rcases hb with rfl | rfl | rfl | rfl | rfl | rfl | rfl | rfl | rfl | rfl | rfl | rfl | rfl | rfl | rfl | rfl | rfl | rfl | rfl | rfl | rfl <;> omega)
  exact entShrV (k := .u64) (l := .u64) (a := (sumVal true [10, 0, 0, 1, (gg / 16777216), ((gg / 65536) % 256), ((gg / 256) % 256), (gg % 256), 0, 17, 0, 9, 0, 5, (((port % 18446744073709551616) / 256) % 256), ((port % 18446744073709551616) % 256), 0, 9, 0, 0, 120])) (c := ((sumVal true [10, 0, 0, 1, (gg / 16777216), ((gg / 65536) % 256), ((gg / 256) % 256), (gg % 256), 0, 17, 0, 9, 0, 5, (((port % 18446744073709551616) / 256) % 256), ((port % 18446744073709551616) % 256), 0, 9, 0, 0, 120]) / 256)) (s := 8) rfl rfl rfl (by decide) (by exact fdiv_nat _ 256)
theorem HGfe4_21_ok (gg port : Int) (hg0 : 0 ≤ gg) (hg1 : gg ≤ 4294967295) (hp0 : -9223372036854775808 ≤ port) (hp1 : port ≤ 9223372036854775807) (hc : HGfK4 gg port) : @EntOK (env (HGfv4 gg port)) Tryz.prog HGfe4_21 := by
  letI : Env := (env (HGfv4 gg port))
  obtain ⟨c0, c1, c2, c3, c4, c5, c6, c7, c8, c9, c10, c11, c12, c13, _⟩ := hc
  have bd0 := sumVal_bd true [10, 0, 0, 1, (gg / 16777216), ((gg / 65536) % 256), ((gg / 256) % 256), (gg % 256), 0, 17, 0, 9, 0, 5, (((port % 18446744073709551616) / 256) % 256), ((port % 18446744073709551616) % 256), 0, 9, 0, 0, 120] (by intro b hb; simp only [List.mem_cons, List.not_mem_nil, or_false] at hb; rcases hb with rfl | rfl | rfl | rfl | rfl | rfl | rfl | rfl | rfl | rfl | rfl | rfl | rfl | rfl | rfl | rfl | rfl | rfl | rfl | rfl | rfl <;> omega)
  exact entConvV (k := .u8) (l := .u64) (a := ((sumVal true [10, 0, 0, 1, (gg / 16777216), ((gg / 65536) % 256), ((gg / 256) % 256), (gg % 256), 0, 17, 0, 9, 0, 5, (((port % 18446744073709551616) / 256) % 256), ((port % 18446744073709551616) % 256), 0, 9, 0, 0, 120]) / 256)) (c := ((sumVal true [10, 0, 0, 1, (gg / 16777216), ((gg / 65536) % 256), ((gg / 256) % 256), (gg % 256), 0, 17, 0, 9, 0, 5, (((port % 18446744073709551616) / 256) % 256), ((port % 18446744073709551616) % 256), 0, 9, 0, 0, 120]) / 256)) rfl rfl (by rw [IntWalk.u8_in _ (by first | omega | (simp only [sumVal, oct.sumF, oct.F, oct.ws]; omega) | (simp only [sumVal, oct.sumF, oct.F, oct.ws] at *; omega))])
theorem HGfe4_22_ok (gg port : Int) (hg0 : 0 ≤ gg) (hg1 : gg ≤ 4294967295) (hp0 : -9223372036854775808 ≤ port) (hp1 : port ≤ 9223372036854775807) (hc : HGfK4 gg port) : @EntOK (env (HGfv4 gg port)) Tryz.prog HGfe4_22 := by
  letI : Env := (env (HGfv4 gg port))
  obtain ⟨c0, c1, c2, c3, c4, c5, c6, c7, c8, c9, c10, c11, c12, c13, _⟩ := hc
  have bd0 := sumVal_bd true [10, 0, 0, 1, (gg / 16777216), ((gg / 65536) % 256), ((gg / 256) % 256), (gg % 256), 0, 17, 0, 9, 0, 5, (((port % 18446744073709551616) / 256) % 256), ((port % 18446744073709551616) % 256), 0, 9, 0, 0, 120] (by intro b hb; simp only [List.mem_cons, List.not_mem_nil, or_false] at hb; rcases hb with rfl | rfl | rfl | rfl | rfl | rfl | rfl | rfl | rfl | rfl | rfl | rfl | rfl | rfl | rfl | rfl | rfl | rfl | rfl | rfl | rfl <;> omega)
  exact entConvV (k := .u8) (l := .u64) (a := (sumVal true [10, 0, 0, 1, (gg / 16777216), ((gg / 65536) % 256), ((gg / 256) % 256), (gg % 256), 0, 17, 0, 9, 0, 5, (((port % 18446744073709551616) / 256) % 256), ((port % 18446744073709551616) % 256), 0, 9, 0, 0, 120])) (c := ((sumVal true [10, 0, 0, 1, (gg / 16777216), ((gg / 65536) % 256), ((gg / 256) % 256), (gg % 256), 0, 17, 0, 9, 0, 5, (((port % 18446744073709551616) / 256) % 256), ((port % 18446744073709551616) % 256), 0, 9, 0, 0, 120]) % 256)) rfl rfl (by rw [IntKind.wrap_u8])
theorem HGfe4_23_ok (gg port : Int) (hg0 : 0 ≤ gg) (hg1 : gg ≤ 4294967295) (hp0 : -9223372036854775808 ≤ port) (hp1 : port ≤ 9223372036854775807) (hc : HGfK4 gg port) : @EntOK (env (HGfv4 gg port)) Tryz.prog HGfe4_23 := by
  letI : Env := (env (HGfv4 gg port))
  obtain ⟨c0, c1, c2, c3, c4, c5, c6, c7, c8, c9, c10, c11, c12, c13, _⟩ := hc
  have bd1 := sumVal_bd true [69, 0, 0, 29, 0, 1, 0, 0, 64, 17, 0, 0, 10, 0, 0, 1, (gg / 16777216), ((gg / 65536) % 256), ((gg / 256) % 256), (gg % 256)] (by intro b hb; simp only [List.mem_cons, List.not_mem_nil, or_false] at hb; rcases hb with rfl | rfl | rfl | rfl | rfl | rfl | rfl | rfl | rfl | rfl | rfl | rfl | rfl | rfl | rfl | rfl | rfl | rfl | rfl | rfl <;> omega)
  exact entConvV (k := .u64) (l := .i64) (a := (sumVal true [69, 0, 0, 29, 0, 1, 0, 0, 64, 17, 0, 0, 10, 0, 0, 1, (gg / 16777216), ((gg / 65536) % 256), ((gg / 256) % 256), (gg % 256)])) (c := (sumVal true [69, 0, 0, 29, 0, 1, 0, 0, 64, 17, 0, 0, 10, 0, 0, 1, (gg / 16777216), ((gg / 65536) % 256), ((gg / 256) % 256), (gg % 256)])) rfl rfl (by rw [IntWalk.u64_in _ (by first | omega | (simp only [sumVal, oct.sumF, oct.F, oct.ws]; omega) | (simp only [sumVal, oct.sumF, oct.F, oct.ws] at *; omega))])
theorem HGfe4_24_ok (gg port : Int) (hg0 : 0 ≤ gg) (hg1 : gg ≤ 4294967295) (hp0 : -9223372036854775808 ≤ port) (hp1 : port ≤ 9223372036854775807) (hc : HGfK4 gg port) : @EntOK (env (HGfv4 gg port)) Tryz.prog HGfe4_24 := by
  letI : Env := (env (HGfv4 gg port))
  obtain ⟨c0, c1, c2, c3, c4, c5, c6, c7, c8, c9, c10, c11, c12, c13, _⟩ := hc
  have bd1 := sumVal_bd true [69, 0, 0, 29, 0, 1, 0, 0, 64, 17, 0, 0, 10, 0, 0, 1, (gg / 16777216), ((gg / 65536) % 256), ((gg / 256) % 256), (gg % 256)] (by intro b hb; simp only [List.mem_cons, List.not_mem_nil, or_false] at hb; rcases hb with rfl | rfl | rfl | rfl | rfl | rfl | rfl | rfl | rfl | rfl | rfl | rfl | rfl | rfl | rfl | rfl | rfl | rfl | rfl | rfl <;> omega)
  exact entShrV (k := .u64) (l := .u64) (a := (sumVal true [69, 0, 0, 29, 0, 1, 0, 0, 64, 17, 0, 0, 10, 0, 0, 1, (gg / 16777216), ((gg / 65536) % 256), ((gg / 256) % 256), (gg % 256)])) (c := ((sumVal true [69, 0, 0, 29, 0, 1, 0, 0, 64, 17, 0, 0, 10, 0, 0, 1, (gg / 16777216), ((gg / 65536) % 256), ((gg / 256) % 256), (gg % 256)]) / 256)) (s := 8) rfl rfl rfl (by decide) (by exact fdiv_nat _ 256)
theorem HGfe4_25_ok (gg port : Int) (hg0 : 0 ≤ gg) (hg1 : gg ≤ 4294967295) (hp0 : -9223372036854775808 ≤ port) (hp1 : port ≤ 9223372036854775807) (hc : HGfK4 gg port) : @EntOK (env (HGfv4 gg port)) Tryz.prog HGfe4_25 := by
  letI : Env := (env (HGfv4 gg port))
  obtain ⟨c0, c1, c2, c3, c4, c5, c6, c7, c8, c9, c10, c11, c12, c13, _⟩ := hc
  have bd1 := sumVal_bd true [69, 0, 0, 29, 0, 1, 0, 0, 64, 17, 0, 0, 10, 0, 0, 1, (gg / 16777216), ((gg / 65536) % 256), ((gg / 256) % 256), (gg % 256)] (by intro b hb; simp only [List.mem_cons, List.not_mem_nil, or_false] at hb; rcases hb with rfl | rfl | rfl | rfl | rfl | rfl | rfl | rfl | rfl | rfl | rfl | rfl | rfl | rfl | rfl | rfl | rfl | rfl | rfl | rfl <;> omega)
  exact entConvV (k := .u8) (l := .u64) (a := ((sumVal true [69, 0, 0, 29, 0, 1, 0, 0, 64, 17, 0, 0, 10, 0, 0, 1, (gg / 16777216), ((gg / 65536) % 256), ((gg / 256) % 256), (gg % 256)]) / 256)) (c := ((sumVal true [69, 0, 0, 29, 0, 1, 0, 0, 64, 17, 0, 0, 10, 0, 0, 1, (gg / 16777216), ((gg / 65536) % 256), ((gg / 256) % 256), (gg % 256)]) / 256)) rfl rfl (by rw [IntWalk.u8_in _ (by first | omega | (simp only [sumVal, oct.sumF, oct.F, oct.ws]; omega) | (simp only [sumVal, oct.sumF, oct.F, oct.ws] at *; omega))])
theorem HGfe4_26_ok (gg port : Int) (hg0 : 0 ≤ gg) (hg1 : gg ≤ 4294967295) (hp0 : -9223372036854775808 ≤ port) (hp1 : port ≤ 9223372036854775807) (hc : HGfK4 gg port) : @EntOK (env (HGfv4 gg port)) Tryz.prog HGfe4_26 := by
  letI : Env := (env (HGfv4 gg port))
  obtain ⟨c0, c1, c2, c3, c4, c5, c6, c7, c8, c9, c10, c11, c12, c13, _⟩ := hc
  have bd1 := sumVal_bd true [69, 0, 0, 29, 0, 1, 0, 0, 64, 17, 0, 0, 10, 0, 0, 1, (gg / 16777216), ((gg / 65536) % 256), ((gg / 256) % 256), (gg % 256)] (by intro b hb; simp only [List.mem_cons, List.not_mem_nil, or_false] at hb; rcases hb with rfl | rfl | rfl | rfl | rfl | rfl | rfl | rfl | rfl | rfl | rfl | rfl | rfl | rfl | rfl | rfl | rfl | rfl | rfl | rfl <;> omega)
  exact entConvV (k := .u8) (l := .u64) (a := (sumVal true [69, 0, 0, 29, 0, 1, 0, 0, 64, 17, 0, 0, 10, 0, 0, 1, (gg / 16777216), ((gg / 65536) % 256), ((gg / 256) % 256), (gg % 256)])) (c := ((sumVal true [69, 0, 0, 29, 0, 1, 0, 0, 64, 17, 0, 0, 10, 0, 0, 1, (gg / 16777216), ((gg / 65536) % 256), ((gg / 256) % 256), (gg % 256)]) % 256)) rfl rfl (by rw [IntKind.wrap_u8])
theorem HGfe4_27_ok (gg port : Int) (hg0 : 0 ≤ gg) (hg1 : gg ≤ 4294967295) (hp0 : -9223372036854775808 ≤ port) (hp1 : port ≤ 9223372036854775807) (hc : HGfK4 gg port) : @EntOK (env (HGfv4 gg port)) Tryz.prog HGfe4_27 := by
  letI : Env := (env (HGfv4 gg port))
  obtain ⟨c0, c1, c2, c3, c4, c5, c6, c7, c8, c9, c10, c11, c12, c13, _⟩ := hc
  exact entCmp (k := .u32) (a := gg) (b := 167772161) rfl rfl (by show some ((gg : Int) == 167772161) = some false; rw [beq_eq_false_iff_ne.2 (by first | omega | (simp only [sumVal, oct.sumF, oct.F, oct.ws]; omega) | (simp only [sumVal, oct.sumF, oct.F, oct.ws] at *; omega))])
theorem HGfe4_28_ok (gg port : Int) (hg0 : 0 ≤ gg) (hg1 : gg ≤ 4294967295) (hp0 : -9223372036854775808 ≤ port) (hp1 : port ≤ 9223372036854775807) (hc : HGfK4 gg port) : @EntOK (env (HGfv4 gg port)) Tryz.prog HGfe4_28 := by
  letI : Env := (env (HGfv4 gg port))
  obtain ⟨c0, c1, c2, c3, c4, c5, c6, c7, c8, c9, c10, c11, c12, c13, _⟩ := hc
  exact entCmp (k := .u32) (a := gg) (b := 4294967295) rfl rfl (by show some ((gg : Int) == 4294967295) = some false; rw [beq_eq_false_iff_ne.2 (by first | omega | (simp only [sumVal, oct.sumF, oct.F, oct.ws]; omega) | (simp only [sumVal, oct.sumF, oct.F, oct.ws] at *; omega))])
theorem HGfe4_29_ok (gg port : Int) (hg0 : 0 ≤ gg) (hg1 : gg ≤ 4294967295) (hp0 : -9223372036854775808 ≤ port) (hp1 : port ≤ 9223372036854775807) (hc : HGfK4 gg port) : @EntOK (env (HGfv4 gg port)) Tryz.prog HGfe4_29 := by
  letI : Env := (env (HGfv4 gg port))
  obtain ⟨c0, c1, c2, c3, c4, c5, c6, c7, c8, c9, c10, c11, c12, c13, _⟩ := hc
  exact entCmp (k := .u32) (a := gg) (b := 167772415) rfl rfl (by show some ((gg : Int) == 167772415) = some false; rw [beq_eq_false_iff_ne.2 (by first | omega | (simp only [sumVal, oct.sumF, oct.F, oct.ws]; omega) | (simp only [sumVal, oct.sumF, oct.F, oct.ws] at *; omega))])
theorem HGfe4_30_ok (gg port : Int) (hg0 : 0 ≤ gg) (hg1 : gg ≤ 4294967295) (hp0 : -9223372036854775808 ≤ port) (hp1 : port ≤ 9223372036854775807) (hc : HGfK4 gg port) : @EntOK (env (HGfv4 gg port)) Tryz.prog HGfe4_30 := by
  letI : Env := (env (HGfv4 gg port))
  obtain ⟨c0, c1, c2, c3, c4, c5, c6, c7, c8, c9, c10, c11, c12, c13, _⟩ := hc
  exact entCmp (k := .u32) (a := gg) (b := 3758096384) rfl rfl (by show some (decide ((gg : Int) ≥ 3758096384)) = some true; rw [decide_eq_true (by first | omega | (simp only [sumVal, oct.sumF, oct.F, oct.ws]; omega) | (simp only [sumVal, oct.sumF, oct.F, oct.ws] at *; omega))])
theorem HGfe4_31_ok (gg port : Int) (hg0 : 0 ≤ gg) (hg1 : gg ≤ 4294967295) (hp0 : -9223372036854775808 ≤ port) (hp1 : port ≤ 9223372036854775807) (hc : HGfK4 gg port) : @EntOK (env (HGfv4 gg port)) Tryz.prog HGfe4_31 := by
  letI : Env := (env (HGfv4 gg port))
  obtain ⟨c0, c1, c2, c3, c4, c5, c6, c7, c8, c9, c10, c11, c12, c13, _⟩ := hc
  exact entCmp (k := .u32) (a := gg) (b := 4026531840) rfl rfl (by show some (decide ((gg : Int) < 4026531840)) = some true; rw [decide_eq_true (by first | omega | (simp only [sumVal, oct.sumF, oct.F, oct.ws]; omega) | (simp only [sumVal, oct.sumF, oct.F, oct.ws] at *; omega))])
theorem HGfe4_32_ok (gg port : Int) (hg0 : 0 ≤ gg) (hg1 : gg ≤ 4294967295) (hp0 : -9223372036854775808 ≤ port) (hp1 : port ≤ 9223372036854775807) (hc : HGfK4 gg port) : @EntOK (env (HGfv4 gg port)) Tryz.prog HGfe4_32 := by
  letI : Env := (env (HGfv4 gg port))
  obtain ⟨c0, c1, c2, c3, c4, c5, c6, c7, c8, c9, c10, c11, c12, c13, _⟩ := hc
  exact entAnd (k := .u8) (a := ((gg / 65536) % 256)) (b := 127) rfl rfl rfl
theorem HGfe4_33_ok (gg port : Int) (hg0 : 0 ≤ gg) (hg1 : gg ≤ 4294967295) (hp0 : -9223372036854775808 ≤ port) (hp1 : port ≤ 9223372036854775807) (hc : HGfK4 gg port) : @EntOK (env (HGfv4 gg port)) Tryz.prog HGfe4_33 := by
  letI : Env := (env (HGfv4 gg port))
  obtain ⟨c0, c1, c2, c3, c4, c5, c6, c7, c8, c9, c10, c11, c12, c13, _⟩ := hc
  exact ⟨by intro v hv; simp only [List.mem_cons, List.not_mem_nil, or_false] at hv; rcases hv with rfl | rfl | rfl | rfl | rfl | rfl <;> first | exact .inl ⟨_, _, rfl⟩ | exact .inr ⟨_, rfl⟩, by intro v hv; simp only [List.mem_cons, List.not_mem_nil, or_false] at hv; rcases hv with rfl | rfl | rfl | rfl | rfl | rfl <;> first | exact .inl ⟨_, _, rfl⟩ | exact .inr ⟨_, rfl⟩, by intro a1 a2 w; have e0 : ¬ (1 = 2) := (by first | omega | (simp only [sumVal, oct.sumF, oct.F, oct.ws]; omega) | (simp only [sumVal, oct.sumF, oct.F, oct.ws] at *; omega)); (refine eqMACd _ _ _ _ _ _ _ _ _ _ _ _ _ ?_ a1 a2 w; first | exact decide_eq_true (by omega) | exact decide_eq_false (by omega))⟩
theorem HGfe4_34_ok (gg port : Int) (hg0 : 0 ≤ gg) (hg1 : gg ≤ 4294967295) (hp0 : -9223372036854775808 ≤ port) (hp1 : port ≤ 9223372036854775807) (hc : HGfK4 gg port) : @EntOK (env (HGfv4 gg port)) Tryz.prog HGfe4_34 := by
  letI : Env := (env (HGfv4 gg port))
  obtain ⟨c0, c1, c2, c3, c4, c5, c6, c7, c8, c9, c10, c11, c12, c13, _⟩ := hc
  exact ⟨by intro v hv; simp only [List.mem_cons, List.not_mem_nil, or_false] at hv; rcases hv with rfl | rfl | rfl | rfl | rfl | rfl <;> first | exact .inl ⟨_, _, rfl⟩ | exact .inr ⟨_, rfl⟩, by intro v hv; simp only [List.mem_cons, List.not_mem_nil, or_false] at hv; rcases hv with rfl | rfl | rfl | rfl | rfl | rfl <;> first | exact .inl ⟨_, _, rfl⟩ | exact .inr ⟨_, rfl⟩, by intro a1 a2 w; have e0 : ¬ (1 = 255) := (by first | omega | (simp only [sumVal, oct.sumF, oct.F, oct.ws]; omega) | (simp only [sumVal, oct.sumF, oct.F, oct.ws] at *; omega)); (refine eqMACd _ _ _ _ _ _ _ _ _ _ _ _ _ ?_ a1 a2 w; first | exact decide_eq_true (by omega) | exact decide_eq_false (by omega))⟩
theorem HGfe4_35_ok (gg port : Int) (hg0 : 0 ≤ gg) (hg1 : gg ≤ 4294967295) (hp0 : -9223372036854775808 ≤ port) (hp1 : port ≤ 9223372036854775807) (hc : HGfK4 gg port) : @EntOK (env (HGfv4 gg port)) Tryz.prog HGfe4_35 := by
  letI : Env := (env (HGfv4 gg port))
  obtain ⟨c0, c1, c2, c3, c4, c5, c6, c7, c8, c9, c10, c11, c12, c13, _⟩ := hc
  exact ⟨by intro v hv; simp only [List.mem_cons, List.not_mem_nil, or_false] at hv; rcases hv with rfl | rfl | rfl | rfl | rfl | rfl <;> first | exact .inl ⟨_, _, rfl⟩ | exact .inr ⟨_, rfl⟩, by intro v hv; simp only [List.mem_cons, List.not_mem_nil, or_false] at hv; rcases hv with rfl | rfl | rfl | rfl | rfl | rfl <;> first | exact .inl ⟨_, _, rfl⟩ | exact .inr ⟨_, rfl⟩, by intro a1 a2 w; have e0 : ¬ ((band .u8 ((gg / 65536) % 256) 127) = 0) := (by first | omega | (simp only [sumVal, oct.sumF, oct.F, oct.ws]; omega) | (simp only [sumVal, oct.sumF, oct.F, oct.ws] at *; omega)); (refine eqMACd _ _ _ _ _ _ _ _ _ _ _ _ _ ?_ a1 a2 w; first | exact decide_eq_true (by omega) | exact decide_eq_false (by omega))⟩
theorem HGfp4_0_ok (gg port : Int) (hg0 : 0 ≤ gg) (hg1 : gg ≤ 4294967295) (hp0 : -9223372036854775808 ≤ port) (hp1 : port ≤ 9223372036854775807) (hc : HGfK4 gg port) : @PEntOK (env (HGfv4 gg port)) HGfp4_0 := by
  letI : Env := (env (HGfv4 gg port))
  obtain ⟨c0, c1, c2, c3, c4, c5, c6, c7, c8, c9, c10, c11, c12, c13, _⟩ := hc
  exact ⟨[10, 0, 0, 1, (gg / 16777216), ((gg / 65536) % 256), ((gg / 256) % 256), (gg % 256), 0, 17, 0, 9, 0, 5, (((port % 18446744073709551616) / 256) % 256), ((port % 18446744073709551616) % 256), 0, 9, 0, 0, 120], rfl, by intro b hb; simp only [List.mem_cons, List.not_mem_nil, or_false] at hb; rcases hb with rfl | rfl | rfl | rfl | rfl | rfl | rfl | rfl | rfl | rfl | rfl | rfl | rfl | rfl | rfl | rfl | rfl | rfl | rfl | rfl | rfl <;> omega, by intro v hv; simp only [HGfp4_0, List.mem_cons, List.not_mem_nil, or_false] at hv; rcases hv with rfl | rfl | rfl | rfl | rfl | rfl | rfl | rfl | rfl | rfl | rfl | rfl | rfl | rfl | rfl | rfl | rfl | rfl | rfl | rfl | rfl <;> exact ⟨_, _, rfl⟩, .inr (.inl ⟨_, rfl, _, _, rfl⟩), rfl⟩
theorem HGfp4_1_ok (gg port : Int) (hg0 : 0 ≤ gg) (hg1 : gg ≤ 4294967295) (hp0 : -9223372036854775808 ≤ port) (hp1 : port ≤ 9223372036854775807) (hc : HGfK4 gg port) : @PEntOK (env (HGfv4 gg port)) HGfp4_1 := by
  letI : Env := (env (HGfv4 gg port))
  obtain ⟨c0, c1, c2, c3, c4, c5, c6, c7, c8, c9, c10, c11, c12, c13, _⟩ := hc
  exact ⟨[69, 0, 0, 29, 0, 1, 0, 0, 64, 17, 0, 0, 10, 0, 0, 1, (gg / 16777216), ((gg / 65536) % 256), ((gg / 256) % 256), (gg % 256)], rfl, by intro b hb; simp only [List.mem_cons, List.not_mem_nil, or_false] at hb; rcases hb with rfl | rfl | rfl | rfl | rfl | rfl | rfl | rfl | rfl | rfl | rfl | rfl | rfl | rfl | rfl | rfl | rfl | rfl | rfl | rfl <;> omega, by intro v hv; simp only [HGfp4_1, List.mem_cons, List.not_mem_nil, or_false] at hv; rcases hv with rfl | rfl | rfl | rfl | rfl | rfl | rfl | rfl | rfl | rfl | rfl | rfl | rfl | rfl | rfl | rfl | rfl | rfl | rfl | rfl <;> exact ⟨_, _, rfl⟩, .inr (.inl ⟨_, rfl, _, _, rfl⟩), rfl⟩
theorem HGfe5_0_ok (gg port : Int) (hg0 : 0 ≤ gg) (hg1 : gg ≤ 4294967295) (hp0 : -9223372036854775808 ≤ port) (hp1 : port ≤ 9223372036854775807) (hc : HGfK5 gg port) : @EntOK (env (HGfv5 gg port)) Tryz.prog HGfe5_0 := by
  letI : Env := (env (HGfv5 gg port))
  obtain ⟨c0, c1, c2, c3, c4, c5, c6, c7, c8, c9, c10, c11, c12, c13, _⟩ := hc
  exact entCmp (k := .i64) (a := port) (b := 1) rfl rfl (by show some (decide ((port : Int) < 1)) = some false; rw [decide_eq_false (by first | omega | (simp only [sumVal, oct.sumF, oct.F, oct.ws]; omega) | (simp only [sumVal, oct.sumF, oct.F, oct.ws] at *; omega))])
theorem HGfe5_1_ok (gg port : Int) (hg0 : 0 ≤ gg) (hg1 : gg ≤ 4294967295) (hp0 : -9223372036854775808 ≤ port) (hp1 : port ≤ 9223372036854775807) (hc : HGfK5 gg port) : @EntOK (env (HGfv5 gg port)) Tryz.prog HGfe5_1 := by
  letI : Env := (env (HGfv5 gg port))
  obtain ⟨c0, c1, c2, c3, c4, c5, c6, c7, c8, c9, c10, c11, c12, c13, _⟩ := hc
  exact entCmp (k := .i64) (a := port) (b := 65535) rfl rfl (by show some (decide ((port : Int) > 65535)) = some false; rw [decide_eq_false (by first | omega | (simp only [sumVal, oct.sumF, oct.F, oct.ws]; omega) | (simp only [sumVal, oct.sumF, oct.F, oct.ws] at *; omega))])
theorem HGfe5_2_ok (gg port : Int) (hg0 : 0 ≤ gg) (hg1 : gg ≤ 4294967295) (hp0 : -9223372036854775808 ≤ port) (hp1 : port ≤ 9223372036854775807) (hc : HGfK5 gg port) : @EntOK (env (HGfv5 gg port)) Tryz.prog HGfe5_2 := by
  letI : Env := (env (HGfv5 gg port))
  obtain ⟨c0, c1, c2, c3, c4, c5, c6, c7, c8, c9, c10, c11, c12, c13, _⟩ := hc
  exact entCmp (k := .u32) (a := gg) (b := 3758096385) rfl rfl (by show some (decide ((gg : Int) ≤ 3758096385)) = some false; rw [decide_eq_false (by first | omega | (simp only [sumVal, oct.sumF, oct.F, oct.ws]; omega) | (simp only [sumVal, oct.sumF, oct.F, oct.ws] at *; omega))])
theorem HGfe5_3_ok (gg port : Int) (hg0 : 0 ≤ gg) (hg1 : gg ≤ 4294967295) (hp0 : -9223372036854775808 ≤ port) (hp1 : port ≤ 9223372036854775807) (hc : HGfK5 gg port) : @EntOK (env (HGfv5 gg port)) Tryz.prog HGfe5_3 := by
  letI : Env := (env (HGfv5 gg port))
  obtain ⟨c0, c1, c2, c3, c4, c5, c6, c7, c8, c9, c10, c11, c12, c13, _⟩ := hc
  exact entCmp (k := .u32) (a := gg) (b := 4026531840) rfl rfl (by show some (decide ((gg : Int) ≥ 4026531840)) = some false; rw [decide_eq_false (by first | omega | (simp only [sumVal, oct.sumF, oct.F, oct.ws]; omega) | (simp only [sumVal, oct.sumF, oct.F, oct.ws] at *; omega))])
theorem HGfe5_4_ok (gg port : Int) (hg0 : 0 ≤ gg) (hg1 : gg ≤ 4294967295) (hp0 : -9223372036854775808 ≤ port) (hp1 : port ≤ 9223372036854775807) (hc : HGfK5 gg port) : @EntOK (env (HGfv5 gg port)) Tryz.prog HGfe5_4 := by
  letI : Env := (env (HGfv5 gg port))
  obtain ⟨c0, c1, c2, c3, c4, c5, c6, c7, c8, c9, c10, c11, c12, c13, _⟩ := hc
  exact entCmp (k := .i64) (a := port) (b := 1) rfl rfl (by show some (decide ((port : Int) ≥ 1)) = some true; rw [decide_eq_true (by first | omega | (simp only [sumVal, oct.sumF, oct.F, oct.ws]; omega) | (simp only [sumVal, oct.sumF, oct.F, oct.ws] at *; omega))])
theorem HGfe5_5_ok (gg port : Int) (hg0 : 0 ≤ gg) (hg1 : gg ≤ 4294967295) (hp0 : -9223372036854775808 ≤ port) (hp1 : port ≤ 9223372036854775807) (hc : HGfK5 gg port) : @EntOK (env (HGfv5 gg port)) Tryz.prog HGfe5_5 := by
  letI : Env := (env (HGfv5 gg port))
  obtain ⟨c0, c1, c2, c3, c4, c5, c6, c7, c8, c9, c10, c11, c12, c13, _⟩ := hc
  exact entCmp (k := .i64) (a := port) (b := 65535) rfl rfl (by show some (decide ((port : Int) ≤ 65535)) = some true; rw [decide_eq_true (by first | omega | (simp only [sumVal, oct.sumF, oct.F, oct.ws]; omega) | (simp only [sumVal, oct.sumF, oct.F, oct.ws] at *; omega))])
theorem HGfe5_6_ok (gg port : Int) (hg0 : 0 ≤ gg) (hg1 : gg ≤ 4294967295) (hp0 : -9223372036854775808 ≤ port) (hp1 : port ≤ 9223372036854775807) (hc : HGfK5 gg port) : @EntOK (env (HGfv5 gg port)) Tryz.prog HGfe5_6 := by
  letI : Env := (env (HGfv5 gg port))
  obtain ⟨c0, c1, c2, c3, c4, c5, c6, c7, c8, c9, c10, c11, c12, c13, _⟩ := hc
  exact entCmp (k := .i64) (a := port) (b := 0) rfl rfl (by show some (decide ((port : Int) ≥ 0)) = some true; rw [decide_eq_true (by first | omega | (simp only [sumVal, oct.sumF, oct.F, oct.ws]; omega) | (simp only [sumVal, oct.sumF, oct.F, oct.ws] at *; omega))])
theorem HGfe5_7_ok (gg port : Int) (hg0 : 0 ≤ gg) (hg1 : gg ≤ 4294967295) (hp0 : -9223372036854775808 ≤ port) (hp1 : port ≤ 9223372036854775807) (hc : HGfK5 gg port) : @EntOK (env (HGfv5 gg port)) Tryz.prog HGfe5_7 := by
  letI : Env := (env (HGfv5 gg port))
  obtain ⟨c0, c1, c2, c3, c4, c5, c6, c7, c8, c9, c10, c11, c12, c13, _⟩ := hc
  exact entConvV (k := .u64) (l := .i64) (a := port) (c := (port % 18446744073709551616)) rfl rfl (by rw [IntKind.wrap_u64])
theorem HGfe5_8_ok (gg port : Int) (hg0 : 0 ≤ gg) (hg1 : gg ≤ 4294967295) (hp0 : -9223372036854775808 ≤ port) (hp1 : port ≤ 9223372036854775807) (hc : HGfK5 gg port) : @EntOK (env (HGfv5 gg port)) Tryz.prog HGfe5_8 := by
  letI : Env := (env (HGfv5 gg port))
  obtain ⟨c0, c1, c2, c3, c4, c5, c6, c7, c8, c9, c10, c11, c12, c13, _⟩ := hc
  exact entShrV (k := .u64) (l := .u64) (a := (port % 18446744073709551616)) (c := ((port % 18446744073709551616) / 256)) (s := 8) rfl rfl rfl (by decide) (by exact fdiv_nat _ 256)
theorem HGfe5_9_ok (gg port : Int) (hg0 : 0 ≤ gg) (hg1 : gg ≤ 4294967295) (hp0 : -9223372036854775808 ≤ port) (hp1 : port ≤ 9223372036854775807) (hc : HGfK5 gg port) : @EntOK (env (HGfv5 gg port)) Tryz.prog HGfe5_9 := by
  letI : Env := (env (HGfv5 gg port))
  obtain ⟨c0, c1, c2, c3, c4, c5, c6, c7, c8, c9, c10, c11, c12, c13, _⟩ := hc
  exact entConvV (k := .u8) (l := .u64) (a := ((port % 18446744073709551616) / 256)) (c := (((port % 18446744073709551616) / 256) % 256)) rfl rfl (by rw [IntKind.wrap_u8])
theorem HGfe5_10_ok (gg port : Int) (hg0 : 0 ≤ gg) (hg1 : gg ≤ 4294967295) (hp0 : -9223372036854775808 ≤ port) (hp1 : port ≤ 9223372036854775807) (hc : HGfK5 gg port) : @EntOK (env (HGfv5 gg port)) Tryz.prog HGfe5_10 := by
  letI : Env := (env (HGfv5 gg port))
  obtain ⟨c0, c1, c2, c3, c4, c5, c6, c7, c8, c9, c10, c11, c12, c13, _⟩ := hc
  exact entConvV (k := .u8) (l := .u64) (a := (port % 18446744073709551616)) (c := ((port % 18446744073709551616) % 256)) rfl rfl (by rw [IntKind.wrap_u8])
theorem HGfe5_11_ok (gg port : Int) (hg0 : 0 ≤ gg) (hg1 : gg ≤ 4294967295) (hp0 : -9223372036854775808 ≤ port) (hp1 : port ≤ 9223372036854775807) (hc : HGfK5 gg port) : @EntOK (env (HGfv5 gg port)) Tryz.prog HGfe5_11 := by
  letI : Env := (env (HGfv5 gg port))
  obtain ⟨c0, c1, c2, c3, c4, c5, c6, c7, c8, c9, c10, c11, c12, c13, _⟩ := hc
  exact entShrV (k := .u32) (l := .u64) (a := gg) (c := (gg / 16777216)) (s := 24) rfl rfl rfl (by decide) (by exact fdiv_nat _ 16777216)
theorem HGfe5_12_ok (gg port : Int) (hg0 : 0 ≤ gg) (hg1 : gg ≤ 4294967295) (hp0 : -9223372036854775808 ≤ port) (hp1 : port ≤ 9223372036854775807) (hc : HGfK5 gg port) : @EntOK (env (HGfv5 gg port)) Tryz.prog HGfe5_12 := by
  letI : Env := (env (HGfv5 gg port))
  obtain ⟨c0, c1, c2, c3, c4, c5, c6, c7, c8, c9, c10, c11, c12, c13, _⟩ := hc
  exact entConvV (k := .u8) (l := .u32) (a := (gg / 16777216)) (c := (gg / 16777216)) rfl rfl (by rw [IntWalk.u8_in _ (by first | omega | (simp only [sumVal, oct.sumF, oct.F, oct.ws]; omega) | (simp only [sumVal, oct.sumF, oct.F, oct.ws] at *; omega))])
theorem HGfe5_13_ok (gg port : Int) (hg0 : 0 ≤ gg) (hg1 : gg ≤ 4294967295) (hp0 : -9223372036854775808 ≤ port) (hp1 : port ≤ 9223372036854775807) (hc : HGfK5 gg port) : @EntOK (env (HGfv5 gg port)) Tryz.prog HGfe5_13 := by
  letI : Env := (env (HGfv5 gg port))
  obtain ⟨c0, c1, c2, c3, c4, c5, c6, c7, c8, c9, c10, c11, c12, c13, _⟩ := hc
  exact entShrV (k := .u32) (l := .u64) (a := gg) (c := (gg / 65536)) (s := 16) rfl rfl rfl (by decide) (by exact fdiv_nat _ 65536)
theorem HGfe5_14_ok (gg port : Int) (hg0 : 0 ≤ gg) (hg1 : gg ≤ 4294967295) (hp0 : -9223372036854775808 ≤ port) (hp1 : port ≤ 9223372036854775807) (hc : HGfK5 gg port) : @EntOK (env (HGfv5 gg port)) Tryz.prog HGfe5_14 := by
  letI : Env := (env (HGfv5 gg port))
  obtain ⟨c0, c1, c2, c3, c4, c5, c6, c7, c8, c9, c10, c11, c12, c13, _⟩ := hc
  exact entConvV (k := .u8) (l := .u32) (a := (gg / 65536)) (c := ((gg / 65536) % 256)) rfl rfl (by rw [IntKind.wrap_u8])
theorem HGfe5_15_ok (gg port : Int) (hg0 : 0 ≤ gg) (hg1 : gg ≤ 4294967295) (hp0 : -9223372036854775808 ≤ port) (hp1 : port ≤ 9223372036854775807) (hc : HGfK5 gg port) : @EntOK (env (HGfv5 gg port)) Tryz.prog HGfe5_15 := by
  letI : Env := (env (HGfv5 gg port))
  obtain ⟨c0, c1, c2, c3, c4, c5, c6, c7, c8, c9, c10, c11, c12, c13, _⟩ := hc
  exact entShrV (k := .u32) (l := .u64) (a := gg) (c := (gg / 256)) (s := 8) rfl rfl rfl (by decide) (by exact fdiv_nat _ 256)
theorem HGfe5_16_ok (gg port : Int) (hg0 : 0 ≤ gg) (hg1 : gg ≤ 4294967295) (hp0 : -9223372036854775808 ≤ port) (hp1 : port ≤ 9223372036854775807) (hc : HGfK5 gg port) : @EntOK (env (HGfv5 gg port)) Tryz.prog HGfe5_16 := by
  letI : Env := (env (HGfv5 gg port))
  obtain ⟨c0, c1, c2, c3, c4, c5, c6, c7, c8, c9, c10, c11, c12, c13, _⟩ := hc
  exact entConvV (k := .u8) (l := .u32) (a := (gg / 256)) (c := ((gg / 256) % 256)) rfl rfl (by rw [IntKind.wrap_u8])
theorem HGfe5_17_ok (gg port : Int) (hg0 : 0 ≤ gg) (hg1 : gg ≤ 4294967295) (hp0 : -9223372036854775808 ≤ port) (hp1 : port ≤ 9223372036854775807) (hc : HGfK5 gg port) : @EntOK (env (HGfv5 gg port)) Tryz.prog HGfe5_17 := by
  letI : Env := (env (HGfv5 gg port))
  obtain ⟨c0, c1, c2, c3, c4, c5, c6, c7, c8, c9, c10, c11, c12, c13, _⟩ := hc
  exact entConvV (k := .u8) (l := .u32) (a := gg) (c := (gg % 256)) rfl rfl (by rw [IntKind.wrap_u8])
theorem HGfe5_18_ok (gg port : Int) (hg0 : 0 ≤ gg) (hg1 : gg ≤ 4294967295) (hp0 : -9223372036854775808 ≤ port) (hp1 : port ≤ 9223372036854775807) (hc : HGfK5 gg port) : @EntOK (env (HGfv5 gg port)) Tryz.prog HGfe5_18 := by
  letI : Env := (env (HGfv5 gg port))
  obtain ⟨c0, c1, c2, c3, c4, c5, c6, c7, c8, c9, c10, c11, c12, c13, _⟩ := hc
  have bd0 := sumVal_bd true [10, 0, 0, 1, (gg / 16777216), ((gg / 65536) % 256), ((gg / 256) % 256), (gg % 256), 0, 17, 0, 9, 0, 5, (((port % 18446744073709551616) / 256) % 256), ((port % 18446744073709551616) % 256), 0, 9, 0, 0, 120] (by intro b hb; simp only [List.mem_cons, List.not_mem_nil, or_false] at hb; rcases hb with rfl | rfl | rfl | rfl | rfl | rfl | rfl | rfl | rfl | rfl | rfl | rfl | rfl | rfl | rfl | rfl | rfl | rfl | rfl | rfl | rfl <;> omega)
  exact entCmp (k := .i64) (a := (sumVal true [10, 0, 0, 1, (gg / 16777216), ((gg / 65536) % 256), ((gg / 256) % 256), (gg % 256), 0, 17, 0, 9, 0, 5, (((port % 18446744073709551616) / 256) % 256), ((port % 18446744073709551616) % 256), 0, 9, 0, 0, 120])) (b := 0) rfl rfl (by show some (((sumVal true [10, 0, 0, 1, (gg / 16777216), ((gg / 65536) % 256), ((gg / 256) % 256), (gg % 256), 0, 17, 0, 9, 0, 5, (((port % 18446744073709551616) / 256) % 256), ((port % 18446744073709551616) % 256), 0, 9, 0, 0, 120]) : Int) == 0) = some true; rw [beq_iff_eq.2 (by first | omega | (simp only [sumVal, oct.sumF, oct.F, oct.ws]; omega) | (simp only [sumVal, oct.sumF, oct.F, oct.ws] at *; omega))])
theorem HGfe5_19_ok (gg port : Int) (hg0 : 0 ≤ gg) (hg1 : gg ≤ 4294967295) (hp0 : -9223372036854775808 ≤ port) (hp1 : port ≤ 9223372036854775807) (hc : HGfK5 gg port) : @EntOK (env (HGfv5 gg port)) Tryz.prog HGfe5_19 := by
  letI : Env := (env (HGfv5 gg port))
  obtain ⟨c0, c1, c2, c3, c4, c5, c6, c7, c8, c9, c10, c11, c12, c13, _⟩ := hc
  have bd1 := sumVal_bd true [69, 0, 0, 29, 0, 1, 0, 0, 64, 17, 0, 0, 10, 0, 0, 1, (gg / 16777216), ((gg / 65536) % 256), ((gg / 256) % 256), (gg % 256)] (by intro b hb; simp only [List.mem_cons, List.not_mem_nil, or_false] at hb; rcases hb with rfl | rfl | rfl | rfl | rfl | rfl | rfl | rfl | rfl | rfl | rfl | rfl | rfl | rfl | rfl | rfl | rfl | rfl | rfl | rfl <;> omega)
  exact entConvV (k := .u64) (l := .i64) (a := (sumVal true [69, 0, 0, 29, 0, 1, 0, 0, 64, 17, 0, 0, 10, 0, 0, 1, (gg / 16777216), ((gg / 65536) % 256), ((gg / 256) % 256), (gg % 256)])) (c := (sumVal true [69, 0, 0, 29, 0, 1, 0, 0, 64, 17, 0, 0, 10, 0, 0, 1, (gg / 16777216), ((gg / 65536) % 256), ((gg / 256) % 256), (gg % 256)])) rfl rfl (by rw [IntWalk.u64_in _ (by first | omega | (simp only [sumVal, oct.sumF, oct.F, oct.ws]; omega) | (simp only [sumVal, oct.sumF, oct.F, oct.ws] at *; omega))])
theorem HGfe5_20_ok (gg port : Int) (hg0 : 0 ≤ gg) (hg1 : gg ≤ 4294967295) (hp0 : -9223372036854775808 ≤ port) (hp1 : port ≤ 9223372036854775807) (hc : HGfK5 gg port) : @EntOK (env (HGfv5 gg port)) Tryz.prog HGfe5_20 := by
  letI : Env := (env (HGfv5 gg port))
  obtain ⟨c0, c1, c2, c3, c4, c5, c6, c7, c8, c9, c10, c11, c12, c13, _⟩ := hc
  have bd1 := sumVal_bd true [69, 0, 0, 29, 0, 1, 0, 0, 64, 17, 0, 0, 10, 0, 0, 1, (gg / 16777216), ((gg / 65536) % 256), ((gg / 256) % 256), (gg % 256)] (by intro b hb; simp only [List.mem_cons, List.not_mem_nil, or_false] at hb; rcases hb with rfl | rfl | rfl | rfl | rfl | rfl | rfl | rfl | rfl | rfl | rfl | rfl | rfl | rfl | rfl | rfl | rfl | rfl | rfl | rfl <;> omega)
  exact entShrV (k := .u64) (l := .u64) (a := (sumVal true [69, 0, 0, 29, 0, 1, 0, 0, 64, 17, 0, 0, 10, 0, 0, 1, (gg / 16777216), ((gg / 65536) % 256), ((gg / 256) % 256), (gg % 256)])) (c := ((sumVal true [69, 0, 0, 29, 0, 1, 0, 0, 64, 17, 0, 0, 10, 0, 0, 1, (gg / 16777216), ((gg / 65536) % 256), ((gg / 256) % 256), (gg % 256)]) / 256)) (s := 8) rfl rfl rfl (by decide) (by exact fdiv_nat _ 256)
theorem HGfe5_21_ok (gg port : Int) (hg0 : 0 ≤ gg) (hg1 : gg ≤ 4294967295) (hp0 : -9223372036854775808 ≤ port) (hp1 : port ≤ 9223372036854775807) (hc : HGfK5 gg port) : @EntOK (env (HGfv5 gg port)) Tryz.prog HGfe5_21 := by
  letI : Env := (env (HGfv5 gg port))
  obtain ⟨c0, c1, c2, c3, c4, c5, c6, c7, c8, c9, c10, c11, c12, c13, _⟩ := hc
  have bd1 := sumVal_bd true [69, 0, 0, 29, 0, 1, 0, 0, 64, 17, 0, 0, 10, 0, 0, 1, (gg / 16777216), ((gg / 65536) % 256), ((gg / 256) % 256), (gg % 256)] (by intro b hb; simp only [List.mem_cons, List.not_mem_nil, or_false] at hb; rcases hb with rfl | rfl | rfl | rfl | rfl | rfl | rfl | rfl | rfl | rfl | rfl | rfl | rfl | rfl | rfl | rfl | rfl | rfl | rfl | rfl <;> omega)
  exact entConvV (k := .u8) (l := .u64) (a := ((sumVal true [69, 0, 0, 29, 0, 1, 0, 0, 64, 17, 0, 0, 10, 0, 0, 1, (gg / 16777216), ((gg / 65536) % 256), ((gg / 256) % 256), (gg % 256)]) / 256)) (c := ((sumVal true [69, 0, 0, 29, 0, 1, 0, 0, 64, 17, 0, 0, 10, 0, 0, 1, (gg / 16777216), ((gg / 65536) % 256), ((gg / 256) % 256), (gg % 256)]) / 256)) rfl rfl (by rw [IntWalk.u8_in _ (by first | omega | (simp only [sumVal, oct.sumF, oct.F, oct.ws]; omega) | (simp only [sumVal, oct.sumF, oct.F, oct.ws] at *; omega))])
theorem HGfe5_22_ok (gg port : Int) (hg0 : 0 ≤ gg) (hg1 : gg ≤ 4294967295) (hp0 : -9223372036854775808 ≤ port) (hp1 : port ≤ 9223372036854775807) (hc : HGfK5 gg port) : @EntOK (env (HGfv5 gg port)) Tryz.prog HGfe5_22 := by
  letI : Env := (env (HGfv5 gg port))
  obtain ⟨c0, c1, c2, c3, c4, c5, c6, c7, c8, c9, c10, c11, c12, c13, _⟩ := hc
  have bd1 := sumVal_bd true [69, 0, 0, 29, 0, 1, 0, 0, 64, 17, 0, 0, 10, 0, 0, 1, (gg / 16777216), ((gg / 65536) % 256), ((gg / 256) % 256), (gg % 256)] (by intro b hb; simp only [List.mem_cons, List.not_mem_nil, or_false] at hb; rcases hb with rfl | rfl | rfl | rfl | rfl | rfl | rfl | rfl | rfl | rfl | rfl | rfl | rfl | rfl | rfl | rfl | rfl | rfl | rfl | rfl <;> omega)
  exact entConvV (k := .u8) (l := .u64) (a := (sumVal true [69, 0, 0, 29, 0, 1, 0, 0, 64, 17, 0, 0, 10, 0, 0, 1, (gg / 16777216), ((gg / 65536) % 256), ((gg / 256) % 256), (gg % 256)])) (c := ((sumVal true [69, 0, 0, 29, 0, 1, 0, 0, 64, 17, 0, 0, 10, 0, 0, 1, (gg / 16777216), ((gg / 65536) % 256), ((gg / 256) % 256), (gg % 256)]) % 256)) rfl rfl (by rw [IntKind.wrap_u8])
theorem HGfe5_23_ok (gg port : Int) (hg0 : 0 ≤ gg) (hg1 : gg ≤ 4294967295) (hp0 : -9223372036854775808 ≤ port) (hp1 : port ≤ 9223372036854775807) (hc : HGfK5 gg port) : @EntOK (env (HGfv5 gg port)) Tryz.prog HGfe5_23 := by
  letI : Env := (env (HGfv5 gg port))
  obtain ⟨c0, c1, c2, c3, c4, c5, c6, c7, c8, c9, c10, c11, c12, c13, _⟩ := hc
  exact entCmp (k := .u32) (a := gg) (b := 167772161) rfl rfl (by show some ((gg : Int) == 167772161) = some false; rw [beq_eq_false_iff_ne.2 (by first | omega | (simp only [sumVal, oct.sumF, oct.F, oct.ws]; omega) | (simp only [sumVal, oct.sumF, oct.F, oct.ws] at *; omega))])
theorem HGfe5_24_ok (gg port : Int) (hg0 : 0 ≤ gg) (hg1 : gg ≤ 4294967295) (hp0 : -9223372036854775808 ≤ port) (hp1 : port ≤ 9223372036854775807) (hc : HGfK5 gg port) : @EntOK (env (HGfv5 gg port)) Tryz.prog HGfe5_24 := by
  letI : Env := (env (HGfv5 gg port))
  obtain ⟨c0, c1, c2, c3, c4, c5, c6, c7, c8, c9, c10, c11, c12, c13, _⟩ := hc
  exact entCmp (k := .u32) (a := gg) (b := 4294967295) rfl rfl (by show some ((gg : Int) == 4294967295) = some false; rw [beq_eq_false_iff_ne.2 (by first | omega | (simp only [sumVal, oct.sumF, oct.F, oct.ws]; omega) | (simp only [sumVal, oct.sumF, oct.F, oct.ws] at *; omega))])
theorem HGfe5_25_ok (gg port : Int) (hg0 : 0 ≤ gg) (hg1 : gg ≤ 4294967295) (hp0 : -9223372036854775808 ≤ port) (hp1 : port ≤ 9223372036854775807) (hc : HGfK5 gg port) : @EntOK (env (HGfv5 gg port)) Tryz.prog HGfe5_25 := by
  letI : Env := (env (HGfv5 gg port))
  obtain ⟨c0, c1, c2, c3, c4, c5, c6, c7, c8, c9, c10, c11, c12, c13, _⟩ := hc
  exact entCmp (k := .u32) (a := gg) (b := 167772415) rfl rfl (by show some ((gg : Int) == 167772415) = some false; rw [beq_eq_false_iff_ne.2 (by first | omega | (simp only [sumVal, oct.sumF, oct.F, oct.ws]; omega) | (simp only [sumVal, oct.sumF, oct.F, oct.ws] at *; omega))])
theorem HGfe5_26_ok (gg port : Int) (hg0 : 0 ≤ gg) (hg1 : gg ≤ 4294967295) (hp0 : -9223372036854775808 ≤ port) (hp1 : port ≤ 9223372036854775807) (hc : HGfK5 gg port) : @EntOK (env (HGfv5 gg port)) Tryz.prog HGfe5_26 := by
  letI : Env := (env (HGfv5 gg port))
  obtain ⟨c0, c1, c2, c3, c4, c5, c6, c7, c8, c9, c10, c11, c12, c13, _⟩ := hc
  exact entCmp (k := .u32) (a := gg) (b := 3758096384) rfl rfl (by show some (decide ((gg : Int) ≥ 3758096384)) = some true; rw [decide_eq_true (by first | omega | (simp only [sumVal, oct.sumF, oct.F, oct.ws]; omega) | (simp only [sumVal, oct.sumF, oct.F, oct.ws] at *; omega))])
theorem HGfe5_27_ok (gg port : Int) (hg0 : 0 ≤ gg) (hg1 : gg ≤ 4294967295) (hp0 : -9223372036854775808 ≤ port) (hp1 : port ≤ 9223372036854775807) (hc : HGfK5 gg port) : @EntOK (env (HGfv5 gg port)) Tryz.prog HGfe5_27 := by
  letI : Env := (env (HGfv5 gg port))
  obtain ⟨c0, c1, c2, c3, c4, c5, c6, c7, c8, c9, c10, c11, c12, c13, _⟩ := hc
  exact entCmp (k := .u32) (a := gg) (b := 4026531840) rfl rfl (by show some (decide ((gg : Int) < 4026531840)) = some true; rw [decide_eq_true (by first | omega | (simp only [sumVal, oct.sumF, oct.F, oct.ws]; omega) | (simp only [sumVal, oct.sumF, oct.F, oct.ws] at *; omega))])
theorem HGfe5_28_ok (gg port : Int) (hg0 : 0 ≤ gg) (hg1 : gg ≤ 4294967295) (hp0 : -9223372036854775808 ≤ port) (hp1 : port ≤ 9223372036854775807) (hc : HGfK5 gg port) : @EntOK (env (HGfv5 gg port)) Tryz.prog HGfe5_28 := by
  letI : Env := (env (HGfv5 gg port))
  obtain ⟨c0, c1, c2, c3, c4, c5, c6, c7, c8, c9, c10, c11, c12, c13, _⟩ := hc
  exact entAnd (k := .u8) (a := ((gg / 65536) % 256)) (b := 127) rfl rfl rfl
theorem HGfe5_29_ok (gg port : Int) (hg0 : 0 ≤ gg) (hg1 : gg ≤ 4294967295) (hp0 : -9223372036854775808 ≤ port) (hp1 : port ≤ 9223372036854775807) (hc : HGfK5 gg port) : @EntOK (env (HGfv5 gg port)) Tryz.prog HGfe5_29 := by
  letI : Env := (env (HGfv5 gg port))
  obtain ⟨c0, c1, c2, c3, c4, c5, c6, c7, c8, c9, c10, c11, c12, c13, _⟩ := hc
  exact ⟨by intro v hv; simp only [List.mem_cons, List.not_mem_nil, or_false] at hv; rcases hv with rfl | rfl | rfl | rfl | rfl | rfl <;> first | exact .inl ⟨_, _, rfl⟩ | exact .inr ⟨_, rfl⟩, by intro v hv; simp only [List.mem_cons, List.not_mem_nil, or_false] at hv; rcases hv with rfl | rfl | rfl | rfl | rfl | rfl <;> first | exact .inl ⟨_, _, rfl⟩ | exact .inr ⟨_, rfl⟩, by intro a1 a2 w; have e0 : ¬ (1 = 2) := (by first | omega | (simp only [sumVal, oct.sumF, oct.F, oct.ws]; omega) | (simp only [sumVal, oct.sumF, oct.F, oct.ws] at *; omega)); (refine eqMACd _ _ _ _ _ _ _ _ _ _ _ _ _ ?_ a1 a2 w; first | exact decide_eq_true (by omega) | exact decide_eq_false (by omega))⟩
theorem HGfe5_30_ok (gg port : Int) (hg0 : 0 ≤ gg) (hg1 : gg ≤ 4294967295) (hp0 : -9223372036854775808 ≤ port) (hp1 : port ≤ 9223372036854775807) (hc : HGfK5 gg port) : @EntOK (env (HGfv5 gg port)) Tryz.prog HGfe5_30 := by
  letI : Env := (env (HGfv5 gg port))
  obtain ⟨c0, c1, c2, c3, c4, c5, c6, c7, c8, c9, c10, c11, c12, c13, _⟩ := hc
  exact ⟨by intro v hv; simp only [List.mem_cons, List.not_mem_nil, or_false] at hv; rcases hv with rfl | rfl | rfl | rfl | rfl | rfl <;> first | exact .inl ⟨_, _, rfl⟩ | exact .inr ⟨_, rfl⟩, by intro v hv; simp only [List.mem_cons, List.not_mem_nil, or_false] at hv; rcases hv with rfl | rfl | rfl | rfl | rfl | rfl <;> first | exact .inl ⟨_, _, rfl⟩ | exact .inr ⟨_, rfl⟩, by intro a1 a2 w; have e0 : ¬ (1 = 255) := (by first | omega | (simp only [sumVal, oct.sumF, oct.F, oct.ws]; omega) | (simp only [sumVal, oct.sumF, oct.F, oct.ws] at *; omega)); (refine eqMACd _ _ _ _ _ _ _ _ _ _ _ _ _ ?_ a1 a2 w; first | exact decide_eq_true (by omega) | exact decide_eq_false (by omega))⟩
theorem HGfe5_31_ok (gg port : Int) (hg0 : 0 ≤ gg) (hg1 : gg ≤ 4294967295) (hp0 : -9223372036854775808 ≤ port) (hp1 : port ≤ 9223372036854775807) (hc : HGfK5 gg port) : @EntOK (env (HGfv5 gg port)) Tryz.prog HGfe5_31 := by
  letI : Env := (env (HGfv5 gg port))
  obtain ⟨c0, c1, c2, c3, c4, c5, c6, c7, c8, c9, c10, c11, c12, c13, _⟩ := hc
  exact ⟨by intro v hv; simp only [List.mem_cons, List.not_mem_nil, or_false] at hv; rcases hv with rfl | rfl | rfl | rfl | rfl | rfl <;> first | exact .inl ⟨_, _, rfl⟩ | exact .inr ⟨_, rfl⟩, by intro v hv; simp only [List.mem_cons, List.not_mem_nil, or_false] at hv; rcases hv with rfl | rfl | rfl | rfl | rfl | rfl <;> first | exact .inl ⟨_, _, rfl⟩ | exact .inr ⟨_, rfl⟩, by intro a1 a2 w; have e0 : ¬ ((band .u8 ((gg / 65536) % 256) 127) = 0) := (by first | omega | (simp only [sumVal, oct.sumF, oct.F, oct.ws]; omega) | (simp only [sumVal, oct.sumF, oct.F, oct.ws] at *; omega)); (refine eqMACd _ _ _ _ _ _ _ _ _ _ _ _ _ ?_ a1 a2 w; first | exact decide_eq_true (by omega) | exact decide_eq_false (by omega))⟩
theorem HGfp5_0_ok (gg port : Int) (hg0 : 0 ≤ gg) (hg1 : gg ≤ 4294967295) (hp0 : -9223372036854775808 ≤ port) (hp1 : port ≤ 9223372036854775807) (hc : HGfK5 gg port) : @PEntOK (env (HGfv5 gg port)) HGfp5_0 := by
  letI : Env := (env (HGfv5 gg port))
  obtain ⟨c0, c1, c2, c3, c4, c5, c6, c7, c8, c9, c10, c11, c12, c13, _⟩ := hc
  exact ⟨[10, 0, 0, 1, (gg / 16777216), ((gg / 65536) % 256), ((gg / 256) % 256), (gg % 256), 0, 17, 0, 9, 0, 5, (((port % 18446744073709551616) / 256) % 256), ((port % 18446744073709551616) % 256), 0, 9, 0, 0, 120], rfl, by intro b hb; simp only [List.mem_cons, List.not_mem_nil, or_false] at hb; rcases hb with rfl | rfl | rfl | rfl | rfl | rfl | rfl | rfl | rfl | rfl | rfl | rfl | rfl | rfl | rfl | rfl | rfl | rfl | rfl | rfl | rfl <;> omega, by intro v hv; simp only [HGfp5_0, List.mem_cons, List.not_mem_nil, or_false] at hv; rcases hv with rfl | rfl | rfl | rfl | rfl | rfl | rfl | rfl | rfl | rfl | rfl | rfl | rfl | rfl | rfl | rfl | rfl | rfl | rfl | rfl | rfl <;> exact ⟨_, _, rfl⟩, .inr (.inl ⟨_, rfl, _, _, rfl⟩), rfl⟩
theorem HGfp5_1_ok (gg port : Int) (hg0 : 0 ≤ gg) (hg1 : gg ≤ 4294967295) (hp0 : -9223372036854775808 ≤ port) (hp1 : port ≤ 9223372036854775807) (hc : HGfK5 gg port) : @PEntOK (env (HGfv5 gg port)) HGfp5_1 := by
  letI : Env := (env (HGfv5 gg port))
  obtain ⟨c0, c1, c2, c3, c4, c5, c6, c7, c8, c9, c10, c11, c12, c13, _⟩ := hc
  exact ⟨[69, 0, 0, 29, 0, 1, 0, 0, 64, 17, 0, 0, 10, 0, 0, 1, (gg / 16777216), ((gg / 65536) % 256), ((gg / 256) % 256), (gg % 256)], rfl, by intro b hb; simp only [List.mem_cons, List.not_mem_nil, or_false] at hb; rcases hb with rfl | rfl | rfl | rfl | rfl | rfl | rfl | rfl | rfl | rfl | rfl | rfl | rfl | rfl | rfl | rfl | rfl | rfl | rfl | rfl <;> omega, by intro v hv; simp only [HGfp5_1, List.mem_cons, List.not_mem_nil, or_false] at hv; rcases hv with rfl | rfl | rfl | rfl | rfl | rfl | rfl | rfl | rfl | rfl | rfl | rfl | rfl | rfl | rfl | rfl | rfl | rfl | rfl | rfl <;> exact ⟨_, _, rfl⟩, .inr (.inl ⟨_, rfl, _, _, rfl⟩), rfl⟩
theorem HGfe6_0_ok (gg port : Int) (hg0 : 0 ≤ gg) (hg1 : gg ≤ 4294967295) (hp0 : -9223372036854775808 ≤ port) (hp1 : port ≤ 9223372036854775807) (hc : HGfK6 gg port) : @EntOK (env (HGfv6 gg port)) Tryz.prog HGfe6_0 := by
  letI : Env := (env (HGfv6 gg port))
  obtain ⟨c0, c1, c2, c3, c4, c5, c6, c7, c8, c9, c10, c11, c12, c13, c14, _⟩ := hc
  exact entCmp (k := .i64) (a := port) (b := 1) rfl rfl (by show some (decide ((port : Int) < 1)) = some false; rw [decide_eq_false (by first | omega | (simp only [sumVal, oct.sumF, oct.F, oct.ws]; omega) | (simp only [sumVal, oct.sumF, oct.F, oct.ws] at *; omega))])
theorem HGfe6_1_ok (gg port : Int) (hg0 : 0 ≤ gg) (hg1 : gg ≤ 4294967295) (hp0 : -9223372036854775808 ≤ port) (hp1 : port ≤ 9223372036854775807) (hc : HGfK6 gg port) : @EntOK (env (HGfv6 gg port)) Tryz.prog HGfe6_1 := by
  letI : Env := (env (HGfv6 gg port))
  obtain ⟨c0, c1, c2, c3, c4, c5, c6, c7, c8, c9, c10, c11, c12, c13, c14, _⟩ := hc
  exact entCmp (k := .i64) (a := port) (b := 65535) rfl rfl (by show some (decide ((port : Int) > 65535)) = some false; rw [decide_eq_false (by first | omega | (simp only [sumVal, oct.sumF, oct.F, oct.ws]; omega) | (simp only [sumVal, oct.sumF, oct.F, oct.ws] at *; omega))])
theorem HGfe6_2_ok (gg port : Int) (hg0 : 0 ≤ gg) (hg1 : gg ≤ 4294967295) (hp0 : -9223372036854775808 ≤ port) (hp1 : port ≤ 9223372036854775807) (hc : HGfK6 gg port) : @EntOK (env (HGfv6 gg port)) Tryz.prog HGfe6_2 := by
  letI : Env := (env (HGfv6 gg port))
  obtain ⟨c0, c1, c2, c3, c4, c5, c6, c7, c8, c9, c10, c11, c12, c13, c14, _⟩ := hc
  exact entCmp (k := .u32) (a := gg) (b := 3758096385) rfl rfl (by show some (decide ((gg : Int) ≤ 3758096385)) = some false; rw [decide_eq_false (by first | omega | (simp only [sumVal, oct.sumF, oct.F, oct.ws]; omega) | (simp only [sumVal, oct.sumF, oct.F, oct.ws] at *; omega))])
theorem HGfe6_3_ok (gg port : Int) (hg0 : 0 ≤ gg) (hg1 : gg ≤ 4294967295) (hp0 : -9223372036854775808 ≤ port) (hp1 : port ≤ 9223372036854775807) (hc : HGfK6 gg port) : @EntOK (env (HGfv6 gg port)) Tryz.prog HGfe6_3 := by
  letI : Env := (env (HGfv6 gg port))
  obtain ⟨c0, c1, c2, c3, c4, c5, c6, c7, c8, c9, c10, c11, c12, c13, c14, _⟩ := hc
  exact entCmp (k := .u32) (a := gg) (b := 4026531840) rfl rfl (by show some (decide ((gg : Int) ≥ 4026531840)) = some false; rw [decide_eq_false (by first | omega | (simp only [sumVal, oct.sumF, oct.F, oct.ws]; omega) | (simp only [sumVal, oct.sumF, oct.F, oct.ws] at *; omega))])
theorem HGfe6_4_ok (gg port : Int) (hg0 : 0 ≤ gg) (hg1 : gg ≤ 4294967295) (hp0 : -9223372036854775808 ≤ port) (hp1 : port ≤ 9223372036854775807) (hc : HGfK6 gg port) : @EntOK (env (HGfv6 gg port)) Tryz.prog HGfe6_4 := by
  letI : Env := (env (HGfv6 gg port))
  obtain ⟨c0, c1, c2, c3, c4, c5, c6, c7, c8, c9, c10, c11, c12, c13, c14, _⟩ := hc
  exact entCmp (k := .i64) (a := port) (b := 1) rfl rfl (by show some (decide ((port : Int) ≥ 1)) = some true; rw [decide_eq_true (by first | omega | (simp only [sumVal, oct.sumF, oct.F, oct.ws]; omega) | (simp only [sumVal, oct.sumF, oct.F, oct.ws] at *; omega))])
theorem HGfe6_5_ok (gg port : Int) (hg0 : 0 ≤ gg) (hg1 : gg ≤ 4294967295) (hp0 : -9223372036854775808 ≤ port) (hp1 : port ≤ 9223372036854775807) (hc : HGfK6 gg port) : @EntOK (env (HGfv6 gg port)) Tryz.prog HGfe6_5 := by
  letI : Env := (env (HGfv6 gg port))
  obtain ⟨c0, c1, c2, c3, c4, c5, c6, c7, c8, c9, c10, c11, c12, c13, c14, _⟩ := hc
  exact entCmp (k := .i64) (a := port) (b := 65535) rfl rfl (by show some (decide ((port : Int) ≤ 65535)) = some true; rw [decide_eq_true (by first | omega | (simp only [sumVal, oct.sumF, oct.F, oct.ws]; omega) | (simp only [sumVal, oct.sumF, oct.F, oct.ws] at *; omega))])
theorem HGfe6_6_ok (gg port : Int) (hg0 : 0 ≤ gg) (hg1 : gg ≤ 4294967295) (hp0 : -9223372036854775808 ≤ port) (hp1 : port ≤ 9223372036854775807) (hc : HGfK6 gg port) : @EntOK (env (HGfv6 gg port)) Tryz.prog HGfe6_6 := by
  letI : Env := (env (HGfv6 gg port))
  obtain ⟨c0, c1, c2, c3, c4, c5, c6, c7, c8, c9, c10, c11, c12, c13, c14, _⟩ := hc
  exact entCmp (k := .i64) (a := port) (b := 0) rfl rfl (by show some (decide ((port : Int) ≥ 0)) = some true; rw [decide_eq_true (by first | omega | (simp only [sumVal, oct.sumF, oct.F, oct.ws]; omega) | (simp only [sumVal, oct.sumF, oct.F, oct.ws] at *; omega))])
theorem HGfe6_7_ok (gg port : Int) (hg0 : 0 ≤ gg) (hg1 : gg ≤ 4294967295) (hp0 : -9223372036854775808 ≤ port) (hp1 : port ≤ 9223372036854775807) (hc : HGfK6 gg port) : @EntOK (env (HGfv6 gg port)) Tryz.prog HGfe6_7 := by
  letI : Env := (env (HGfv6 gg port))
  obtain ⟨c0, c1, c2, c3, c4, c5, c6, c7, c8, c9, c10, c11, c12, c13, c14, _⟩ := hc
  exact entConvV (k := .u64) (l := .i64) (a := port) (c := (port % 18446744073709551616)) rfl rfl (by rw [IntKind.wrap_u64])
theorem HGfe6_8_ok (gg port : Int) (hg0 : 0 ≤ gg) (hg1 : gg ≤ 4294967295) (hp0 : -9223372036854775808 ≤ port) (hp1 : port ≤ 9223372036854775807) (hc : HGfK6 gg port) : @EntOK (env (HGfv6 gg port)) Tryz.prog HGfe6_8 := by
  letI : Env := (env (HGfv6 gg port))
  obtain ⟨c0, c1, c2, c3, c4, c5, c6, c7, c8, c9, c10, c11, c12, c13, c14, _⟩ := hc
  exact entShrV (k := .u64) (l := .u64) (a := (port % 18446744073709551616)) (c := ((port % 18446744073709551616) / 256)) (s := 8) rfl rfl rfl (by decide) (by exact fdiv_nat _ 256)
theorem HGfe6_9_ok (gg port : Int) (hg0 : 0 ≤ gg) (hg1 : gg ≤ 4294967295) (hp0 : -9223372036854775808 ≤ port) (hp1 : port ≤ 9223372036854775807) (hc : HGfK6 gg port) : @EntOK (env (HGfv6 gg port)) Tryz.prog HGfe6_9 := by
  letI : Env := (env (HGfv6 gg port))
  obtain ⟨c0, c1, c2, c3, c4, c5, c6, c7, c8, c9, c10, c11, c12, c13, c14, _⟩ := hc
  exact entConvV (k := .u8) (l := .u64) (a := ((port % 18446744073709551616) / 256)) (c := (((port % 18446744073709551616) / 256) % 256)) rfl rfl (by rw [IntKind.wrap_u8])
theorem HGfe6_10_ok (gg port : Int) (hg0 : 0 ≤ gg) (hg1 : gg ≤ 4294967295) (hp0 : -9223372036854775808 ≤ port) (hp1 : port ≤ 9223372036854775807) (hc : HGfK6 gg port) : @EntOK (env (HGfv6 gg port)) Tryz.prog HGfe6_10 := by
  letI : Env := (env (HGfv6 gg port))
  obtain ⟨c0, c1, c2, c3, c4, c5, c6, c7, c8, c9, c10, c11, c12, c13, c14, _⟩ := hc
  exact entConvV (k := .u8) (l := .u64) (a := (port % 18446744073709551616)) (c := ((port % 18446744073709551616) % 256)) rfl rfl (by rw [IntKind.wrap_u8])
theorem HGfe6_11_ok (gg port : Int) (hg0 : 0 ≤ gg) (hg1 : gg ≤ 4294967295) (hp0 : -9223372036854775808 ≤ port) (hp1 : port ≤ 9223372036854775807) (hc : HGfK6 gg port) : @EntOK (env (HGfv6 gg port)) Tryz.prog HGfe6_11 := by
  letI : Env := (env (HGfv6 gg port))
  obtain ⟨c0, c1, c2, c3, c4, c5, c6, c7, c8, c9, c10, c11, c12, c13, c14, _⟩ := hc
  exact entShrV (k := .u32) (l := .u64) (a := gg) (c := (gg / 16777216)) (s := 24) rfl rfl rfl (by decide) (by exact fdiv_nat _ 16777216)
theorem HGfe6_12_ok (gg port : Int) (hg0 : 0 ≤ gg) (hg1 : gg ≤ 4294967295) (hp0 : -9223372036854775808 ≤ port) (hp1 : port ≤ 9223372036854775807) (hc : HGfK6 gg port) : @EntOK (env (HGfv6 gg port)) Tryz.prog HGfe6_12 := by
  letI : Env := (env (HGfv6 gg port))
  obtain ⟨c0, c1, c2, c3, c4, c5, c6, c7, c8, c9, c10, c11, c12, c13, c14, _⟩ := hc
  exact entConvV (k := .u8) (l := .u32) (a := (gg / 16777216)) (c := (gg / 16777216)) rfl rfl (by rw [IntWalk.u8_in _ (by first | omega | (simp only [sumVal, oct.sumF, oct.F, oct.ws]; omega) | (simp only [sumVal, oct.sumF, oct.F, oct.ws] at *; omega))])
theorem HGfe6_13_ok (gg port : Int) (hg0 : 0 ≤ gg) (hg1 : gg ≤ 4294967295) (hp0 : -9223372036854775808 ≤ port) (hp1 : port ≤ 9223372036854775807) (hc : HGfK6 gg port) : @EntOK (env (HGfv6 gg port)) Tryz.prog HGfe6_13 := by
  letI : Env := (env (HGfv6 gg port))
  obtain ⟨c0, c1, c2, c3, c4, c5, c6, c7, c8, c9, c10, c11, c12, c13, c14, _⟩ := hc
  exact entShrV (k := .u32) (l := .u64) (a := gg) (c := (gg / 65536)) (s := 16) rfl rfl rfl (by decide) (by exact fdiv_nat _ 65536)
theorem HGfe6_14_ok (gg port : Int) (hg0 : 0 ≤ gg) (hg1 : gg ≤ 4294967295) (hp0 : -9223372036854775808 ≤ port) (hp1 : port ≤ 9223372036854775807) (hc : HGfK6 gg port) : @EntOK (env (HGfv6 gg port)) Tryz.prog HGfe6_14 := by
  letI : Env := (env (HGfv6 gg port))
  obtain ⟨c0, c1, c2, c3, c4, c5, c6, c7, c8, c9, c10, c11, c12, c13, c14, _⟩ := hc
  exact entConvV (k := .u8) (l := .u32) (a := (gg / 65536)) (c := ((gg / 65536) % 256)) rfl rfl (by rw [IntKind.wrap_u8])
theorem HGfe6_15_ok (gg port : Int) (hg0 : 0 ≤ gg) (hg1 : gg ≤ 4294967295) (hp0 : -9223372036854775808 ≤ port) (hp1 : port ≤ 9223372036854775807) (hc : HGfK6 gg port) : @EntOK (env (HGfv6 gg port)) Tryz.prog HGfe6_15 := by
  letI : Env := (env (HGfv6 gg port))
  obtain ⟨c0, c1, c2, c3, c4, c5, c6, c7, c8, c9, c10, c11, c12, c13, c14, _⟩ := hc
  exact entShrV (k := .u32) (l := .u64) (a := gg) (c := (gg / 256)) (s := 8) rfl rfl rfl (by decide) (by exact fdiv_nat _ 256)
theorem HGfe6_16_ok (gg port : Int) (hg0 : 0 ≤ gg) (hg1 : gg ≤ 4294967295) (hp0 : -9223372036854775808 ≤ port) (hp1 : port ≤ 9223372036854775807) (hc : HGfK6 gg port) : @EntOK (env (HGfv6 gg port)) Tryz.prog HGfe6_16 := by
  letI : Env := (env (HGfv6 gg port))
  obtain ⟨c0, c1, c2, c3, c4, c5, c6, c7, c8, c9, c10, c11, c12, c13, c14, _⟩ := hc
  exact entConvV (k := .u8) (l := .u32) (a := (gg / 256)) (c := ((gg / 256) % 256)) rfl rfl (by rw [IntKind.wrap_u8])
theorem HGfe6_17_ok (gg port : Int) (hg0 : 0 ≤ gg) (hg1 : gg ≤ 4294967295) (hp0 : -9223372036854775808 ≤ port) (hp1 : port ≤ 9223372036854775807) (hc : HGfK6 gg port) : @EntOK (env (HGfv6 gg port)) Tryz.prog HGfe6_17 := by
  letI : Env := (env (HGfv6 gg port))
  obtain ⟨c0, c1, c2, c3, c4, c5, c6, c7, c8, c9, c10, c11, c12, c13, c14, _⟩ := hc
  exact entConvV (k := .u8) (l := .u32) (a := gg) (c := (gg % 256)) rfl rfl (by rw [IntKind.wrap_u8])
theorem HGfe6_18_ok (gg port : Int) (hg0 : 0 ≤ gg) (hg1 : gg ≤ 4294967295) (hp0 : -9223372036854775808 ≤ port) (hp1 : port ≤ 9223372036854775807) (hc : HGfK6 gg port) : @EntOK (env (HGfv6 gg port)) Tryz.prog HGfe6_18 := by
  letI : Env := (env (HGfv6 gg port))
  obtain ⟨c0, c1, c2, c3, c4, c5, c6, c7, c8, c9, c10, c11, c12, c13, c14, _⟩ := hc
  have bd0 := sumVal_bd true [10, 0, 0, 1, (gg / 16777216), ((gg / 65536) % 256), ((gg / 256) % 256), (gg % 256), 0, 17, 0, 9, 0, 5, (((port % 18446744073709551616) / 256) % 256), ((port % 18446744073709551616) % 256), 0, 9, 0, 0, 120] (by intro b hb; simp only [List.mem_cons, List.not_mem_nil, or_false] at hb; rcases hb with rfl | rfl | rfl | rfl | rfl | rfl | rfl | rfl | rfl | rfl | rfl | rfl | rfl | rfl | rfl | rfl | rfl | rfl | rfl | rfl | rfl <;> omega)
  exact entCmp (k := .i64) (a := (sumVal true [10, 0, 0, 1, (gg / 16777216), ((gg / 65536) % 256), ((gg / 256) % 256), (gg % 256), 0, 17, 0, 9, 0, 5, (((port % 18446744073709551616) / 256) % 256), ((port % 18446744073709551616) % 256), 0, 9, 0, 0, 120])) (b := 0) rfl rfl (by show some (((sumVal true [10, 0, 0, 1, (gg / 16777216), ((gg / 65536) % 256), ((gg / 256) % 256), (gg % 256), 0, 17, 0, 9, 0, 5, (((port % 18446744073709551616) / 256) % 256), ((port % 18446744073709551616) % 256), 0, 9, 0, 0, 120]) : Int) == 0) = some false; rw [beq_eq_false_iff_ne.2 (by first | omega | (simp only [sumVal, oct.sumF, oct.F, oct.ws]; omega) | (simp only [sumVal, oct.sumF, oct.F, oct.ws] at *; omega))])
theorem HGfe6_19_ok (gg port : Int) (hg0 : 0 ≤ gg) (hg1 : gg ≤ 4294967295) (hp0 : -9223372036854775808 ≤ port) (hp1 : port ≤ 9223372036854775807) (hc : HGfK6 gg port) : @EntOK (env (HGfv6 gg port)) Tryz.prog HGfe6_19 := by
  letI : Env := (env (HGfv6 gg port))
  obtain ⟨c0, c1, c2, c3, c4, c5, c6, c7, c8, c9, c10, c11, c12, c13, c14, _⟩ := hc
  have bd0 := sumVal_bd true [10, 0, 0, 1, (gg / 16777216), ((gg / 65536) % 256), ((gg / 256) % 256), (gg % 256), 0, 17, 0, 9, 0, 5, (((port % 18446744073709551616) / 256) % 256), ((port % 18446744073709551616) % 256), 0, 9, 0, 0, 120] (by intro b hb; simp only [List.mem_cons, List.not_mem_nil, or_false] at hb; rcases hb with rfl | rfl | rfl | rfl | rfl | rfl | rfl | rfl | rfl | rfl | rfl | rfl | rfl | rfl | rfl | rfl | rfl | rfl | rfl | rfl | rfl <;> omega)
  exact entConvV (k := .u64) (l := .i64) (a := (sumVal true [10, 0, 0, 1, (gg / 16777216), ((gg / 65536) % 256), ((gg / 256) % 256), (gg % 256), 0, 17, 0, 9, 0, 5, (((port % 18446744073709551616) / 256) % 256), ((port % 18446744073709551616) % 256), 0, 9, 0, 0, 120])) (c := (sumVal true [10, 0, 0, 1, (gg / 16777216), ((gg / 65536) % 256), ((gg / 256) % 256), (gg % 256), 0, 17, 0, 9, 0, 5, (((port % 18446744073709551616) / 256) % 256), ((port % 18446744073709551616) % 256), 0, 9, 0, 0, 120])) rfl rfl (by rw [IntWalk.u64_in _ (by first | omega | (simp only [sumVal, oct.sumF, oct.F, oct.ws]; omega) | (simp only [sumVal, oct.sumF, oct.F, oct.ws] at *; omega))])
theorem HGfe6_20_ok (gg port : Int) (hg0 : 0 ≤ gg) (hg1 : gg ≤ 4294967295) (hp0 : -9223372036854775808 ≤ port) (hp1 : port ≤ 9223372036854775807) (hc : HGfK6 gg port) : @EntOK (env (HGfv6 gg port)) Tryz.prog HGfe6_20 := by
  letI : Env := (env (HGfv6 gg port))
  obtain ⟨c0, c1, c2, c3, c4, c5, c6, c7, c8, c9, c10, c11, c12, c13, c14, _⟩ := hc
  have bd0 := sumVal_bd true [10, 0, 0, 1, (gg / 16777216), ((gg / 65536) % 256), ((gg / 256) % 256), (gg % 256), 0, 17, 0, 9, 0, 5, (((port % 18446744073709551616) / 256) % 256), ((port % 18446744073709551616) % 256), 0, 9, 0, 0, 120] (by intro b hb; simp only [List.mem_cons, List.not_mem_nil, or_false] at hb; rcases hb with rfl | rfl | rfl | rfl | rfl | rfl | rfl | rfl | rfl | rfl | rfl | rfl | rfl | rfl | rfl | rfl | rfl | rfl | rfl | rfl | rfl <;> omega)
  exact entShrV (k := .u64) (l := .u64) (a := (sumVal true [10, 0, 0, 1, (gg / 16777216), ((gg / 65536) % 256), ((gg / 256) % 256), (gg % 256), 0, 17, 0, 9, 0, 5, (((port % 18446744073709551616) / 256) % 256), ((port % 18446744073709551616) % 256), 0, 9, 0, 0, 120])) (c := ((sumVal true [10, 0, 0, 1, (gg / 16777216), ((gg / 65536) % 256), ((gg / 256) % 256), (gg % 256), 0, 17, 0, 9, 0, 5, (((port % 18446744073709551616) / 256) % 256), ((port % 18446744073709551616) % 256), 0, 9, 0, 0, 120]) / 256)) (s := 8) rfl rfl rfl (by decide) (by exact fdiv_nat _ 256)
theorem HGfe6_21_ok (gg port : Int) (hg0 : 0 ≤ gg) (hg1 : gg ≤ 4294967295) (hp0 : -9223372036854775808 ≤ port) (hp1 : port ≤ 9223372036854775807) (hc : HGfK6 gg port) : @EntOK (env (HGfv6 gg port)) Tryz.prog HGfe6_21 := by
  letI : Env := (env (HGfv6 gg port))
  obtain ⟨c0, c1, c2, c3, c4, c5, c6, c7, c8, c9, c10, c11, c12, c13, c14, _⟩ := hc
  have bd0 := sumVal_bd true [10, 0, 0, 1, (gg / 16777216), ((gg / 65536) % 256), ((gg / 256) % 256), (gg % 256), 0, 17, 0, 9, 0, 5, (((port % 18446744073709551616) / 256) % 256), ((port % 18446744073709551616) % 256), 0, 9, 0, 0, 120] (by intro b hb; simp only [List.mem_cons, List.not_mem_nil, or_false] at hb; rcases hb with rfl | rfl | rfl | rfl | rfl | rfl | rfl | rfl | rfl | rfl | rfl | rfl | rfl | rfl | rfl | rfl | rfl | rfl | rfl | rfl | rfl <;> omega)
  exact entConvV (k := .u8) (l := .u64) (a := ((sumVal true [10, 0, 0, 1, (gg / 16777216), ((gg / 65536) % 256), ((gg / 256) % 256), (gg % 256), 0, 17, 0, 9, 0, 5, (((port % 18446744073709551616) / 256) % 256), ((port % 18446744073709551616) % 256), 0, 9, 0, 0, 120]) / 256)) (c := ((sumVal true [10, 0, 0, 1, (gg / 16777216), ((gg / 65536) % 256), ((gg / 256) % 256), (gg % 256), 0, 17, 0, 9, 0, 5, (((port % 18446744073709551616) / 256) % 256), ((port % 18446744073709551616) % 256), 0, 9, 0, 0, 120]) / 256)) rfl rfl (by rw [IntWalk.u8_in _ (by first | omega | (simp only [sumVal, oct.sumF, oct.F, oct.ws]; omega) | (simp only [sumVal, oct.sumF, oct.F, oct.ws] at *; omega))])
theorem HGfe6_22_ok (gg port : Int) (hg0 : 0 ≤ gg) (hg1 : gg ≤ 4294967295) (hp0 : -9223372036854775808 ≤ port) (hp1 : port ≤ 9223372036854775807) (hc : HGfK6 gg port) : @EntOK (env (HGfv6 gg port)) Tryz.prog HGfe6_22 := by
  letI : Env := (env (HGfv6 gg port))
  obtain ⟨c0, c1, c2, c3, c4, c5, c6, c7, c8, c9, c10, c11, c12, c13, c14, _⟩ := hc
  have bd0 := sumVal_bd true [10, 0, 0, 1, (gg / 16777216), ((gg / 65536) % 256), ((gg / 256) % 256), (gg % 256), 0, 17, 0, 9, 0, 5, (((port % 18446744073709551616) / 256) % 256), ((port % 18446744073709551616) % 256), 0, 9, 0, 0, 120] (by intro b hb; simp only [List.mem_cons, List.not_mem_nil, or_false] at hb; rcases hb with rfl | rfl | rfl | rfl | rfl | rfl | rfl | rfl | rfl | rfl | rfl | rfl | rfl | rfl | rfl | rfl | rfl | rfl | rfl | rfl | rfl <;> omega)
  exact entConvV (k := .u8) (l := .u64) (a := (sumVal true [10, 0, 0, 1, (gg / 16777216), ((gg / 65536) % 256), ((gg / 256) % 256), (gg % 256), 0, 17, 0, 9, 0, 5, (((port % 18446744073709551616) / 256) % 256), ((port % 18446744073709551616) % 256), 0, 9, 0, 0, 120])) (c := ((sumVal true [10, 0, 0, 1, (gg / 16777216), ((gg / 65536) % 256), ((gg / 256) % 256), (gg % 256), 0, 17, 0, 9, 0, 5, (((port % 18446744073709551616) / 256) % 256), ((port % 18446744073709551616) % 256), 0, 9, 0, 0, 120]) % 256)) rfl rfl (by rw [IntKind.wrap_u8])
theorem HGfe6_23_ok (gg port : Int) (hg0 : 0 ≤ gg) (hg1 : gg ≤ 4294967295) (hp0 : -9223372036854775808 ≤ port) (hp1 : port ≤ 9223372036854775807) (hc : HGfK6 gg port) : @EntOK (env (HGfv6 gg port)) Tryz.prog HGfe6_23 := by
  letI : Env := (env (HGfv6 gg port))
  obtain ⟨c0, c1, c2, c3, c4, c5, c6, c7, c8, c9, c10, c11, c12, c13, c14, _⟩ := hc
  have bd1 := sumVal_bd true [69, 0, 0, 29, 0, 1, 0, 0, 64, 17, 0, 0, 10, 0, 0, 1, (gg / 16777216), ((gg / 65536) % 256), ((gg / 256) % 256), (gg % 256)] (by intro b hb; simp only [List.mem_cons, List.not_mem_nil, or_false] at hb; rcases hb with rfl | rfl | rfl | rfl | rfl | rfl | rfl | rfl | rfl | rfl | rfl | rfl | rfl | rfl | rfl | rfl | rfl | rfl | rfl | rfl <;> omega)
  exact entConvV (k := .u64) (l := .i64) (a := (sumVal true [69, 0, 0, 29, 0, 1, 0, 0, 64, 17, 0, 0, 10, 0, 0, 1, (gg / 16777216), ((gg / 65536) % 256), ((gg / 256) % 256), (gg % 256)])) (c := (sumVal true [69, 0, 0, 29, 0, 1, 0, 0, 64, 17, 0, 0, 10, 0, 0, 1, (gg / 16777216), ((gg / 65536) % 256), ((gg / 256) % 256), (gg % 256)])) rfl rfl (by rw [IntWalk.u64_in _ (by first | omega | (simp only [sumVal, oct.sumF, oct.F, oct.ws]; omega) | (simp only [sumVal, oct.sumF, oct.F, oct.ws] at *; omega))])
theorem HGfe6_24_ok (gg port : Int) (hg0 : 0 ≤ gg) (hg1 : gg ≤ 4294967295) (hp0 : -9223372036854775808 ≤ port) (hp1 : port ≤ 9223372036854775807) (hc : HGfK6 gg port) : @EntOK (env (HGfv6 gg port)) Tryz.prog HGfe6_24 := by
  letI : Env := (env (HGfv6 gg port))
  obtain ⟨c0, c1, c2, c3, c4, c5, c6, c7, c8, c9, c10, c11, c12, c13, c14, _⟩ := hc
  have bd1 := sumVal_bd true [69, 0, 0, 29, 0, 1, 0, 0, 64, 17, 0, 0, 10, 0, 0, 1, (gg / 16777216), ((gg / 65536) % 256), ((gg / 256) % 256), (gg % 256)] (by intro b hb; simp only [List.mem_cons, List.not_mem_nil, or_false] at hb; rcases hb with rfl | rfl | rfl | rfl | rfl | rfl | rfl | rfl | rfl | rfl | rfl | rfl | rfl | rfl | rfl | rfl | rfl | rfl | rfl | rfl <;> omega)
  exact entShrV (k := .u64) (l := .u64) (a := (sumVal true [69, 0, 0, 29, 0, 1, 0, 0, 64, 17, 0, 0, 10, 0, 0, 1, (gg / 16777216), ((gg / 65536) % 256), ((gg / 256) % 256), (gg % 256)])) (c := ((sumVal true [69, 0, 0, 29, 0, 1, 0, 0, 64, 17, 0, 0, 10, 0, 0, 1, (gg / 16777216), ((gg / 65536) % 256), ((gg / 256) % 256), (gg % 256)]) / 256)) (s := 8) rfl rfl rfl (by decide) (by exact fdiv_nat _ 256)
theorem HGfe6_25_ok (gg port : Int) (hg0 : 0 ≤ gg) (hg1 : gg ≤ 4294967295) (hp0 : -9223372036854775808 ≤ port) (hp1 : port ≤ 9223372036854775807) (hc : HGfK6 gg port) : @EntOK (env (HGfv6 gg port)) Tryz.prog HGfe6_25 := by
  letI : Env := (env (HGfv6 gg port))
  obtain ⟨c0, c1, c2, c3, c4, c5, c6, c7, c8, c9, c10, c11, c12, c13, c14, _⟩ := hc
  have bd1 := sumVal_bd true [69, 0, 0, 29, 0, 1, 0, 0, 64, 17, 0, 0, 10, 0, 0, 1, (gg / 16777216), ((gg / 65536) % 256), ((gg / 256) % 256), (gg % 256)] (by intro b hb; simp only [List.mem_cons, List.not_mem_nil, or_false] at hb; rcases hb with rfl | rfl | rfl | rfl | rfl | rfl | rfl | rfl | rfl | rfl | rfl | rfl | rfl | rfl | rfl | rfl | rfl | rfl | rfl | rfl <;> omega)
  exact entConvV (k := .u8) (l := .u64) (a := ((sumVal true [69, 0, 0, 29, 0, 1, 0, 0, 64, 17, 0, 0, 10, 0, 0, 1, (gg / 16777216), ((gg / 65536) % 256), ((gg / 256) % 256), (gg % 256)]) / 256)) (c := ((sumVal true [69, 0, 0, 29, 0, 1, 0, 0, 64, 17, 0, 0, 10, 0, 0, 1, (gg / 16777216), ((gg / 65536) % 256), ((gg / 256) % 256), (gg % 256)]) / 256)) rfl rfl (by rw [IntWalk.u8_in _ (by first | omega | (simp only [sumVal, oct.sumF, oct.F, oct.ws]; omega) | (simp only [sumVal, oct.sumF, oct.F, oct.ws] at *; omega))])
theorem HGfe6_26_ok (gg port : Int) (hg0 : 0 ≤ gg) (hg1 : gg ≤ 4294967295) (hp0 : -9223372036854775808 ≤ port) (hp1 : port ≤ 9223372036854775807) (hc : HGfK6 gg port) : @EntOK (env (HGfv6 gg port)) Tryz.prog HGfe6_26 := by
  letI : Env := (env (HGfv6 gg port))
  obtain ⟨c0, c1, c2, c3, c4, c5, c6, c7, c8, c9, c10, c11, c12, c13, c14, _⟩ := hc
  have bd1 := sumVal_bd true [69, 0, 0, 29, 0, 1, 0, 0, 64, 17, 0, 0, 10, 0, 0, 1, (gg / 16777216), ((gg / 65536) % 256), ((gg / 256) % 256), (gg % 256)] (by intro b hb; simp only [List.mem_cons, List.not_mem_nil, or_false] at hb; rcases hb with rfl | rfl | rfl | rfl | rfl | rfl | rfl | rfl | rfl | rfl | rfl | rfl | rfl | rfl | rfl | rfl | rfl | rfl | rfl | rfl <;> omega)
  exact entConvV (k := .u8) (l := .u64) (a := (sumVal true [69, 0, 0, 29, 0, 1, 0, 0, 64, 17, 0, 0, 10, 0, 0, 1, (gg / 16777216), ((gg / 65536) % 256), ((gg / 256) % 256), (gg % 256)])) (c := ((sumVal true [69, 0, 0, 29, 0, 1, 0, 0, 64, 17, 0, 0, 10, 0, 0, 1, (gg / 16777216), ((gg / 65536) % 256), ((gg / 256) % 256), (gg % 256)]) % 256)) rfl rfl (by rw [IntKind.wrap_u8])
theorem HGfe6_27_ok (gg port : Int) (hg0 : 0 ≤ gg) (hg1 : gg ≤ 4294967295) (hp0 : -9223372036854775808 ≤ port) (hp1 : port ≤ 9223372036854775807) (hc : HGfK6 gg port) : @EntOK (env (HGfv6 gg port)) Tryz.prog HGfe6_27 := by
  letI : Env := (env (HGfv6 gg port))
  obtain ⟨c0, c1, c2, c3, c4, c5, c6, c7, c8, c9, c10, c11, c12, c13, c14, _⟩ := hc
  exact entCmp (k := .u32) (a := gg) (b := 167772161) rfl rfl (by show some ((gg : Int) == 167772161) = some false; rw [beq_eq_false_iff_ne.2 (by first | omega | (simp only [sumVal, oct.sumF, oct.F, oct.ws]; omega) | (simp only [sumVal, oct.sumF, oct.F, oct.ws] at *; omega))])
theorem HGfe6_28_ok (gg port : Int) (hg0 : 0 ≤ gg) (hg1 : gg ≤ 4294967295) (hp0 : -9223372036854775808 ≤ port) (hp1 : port ≤ 9223372036854775807) (hc : HGfK6 gg port) : @EntOK (env (HGfv6 gg port)) Tryz.prog HGfe6_28 := by
  letI : Env := (env (HGfv6 gg port))
  obtain ⟨c0, c1, c2, c3, c4, c5, c6, c7, c8, c9, c10, c11, c12, c13, c14, _⟩ := hc
  exact entCmp (k := .u32) (a := gg) (b := 4294967295) rfl rfl (by show some ((gg : Int) == 4294967295) = some false; rw [beq_eq_false_iff_ne.2 (by first | omega | (simp only [sumVal, oct.sumF, oct.F, oct.ws]; omega) | (simp only [sumVal, oct.sumF, oct.F, oct.ws] at *; omega))])
theorem HGfe6_29_ok (gg port : Int) (hg0 : 0 ≤ gg) (hg1 : gg ≤ 4294967295) (hp0 : -9223372036854775808 ≤ port) (hp1 : port ≤ 9223372036854775807) (hc : HGfK6 gg port) : @EntOK (env (HGfv6 gg port)) Tryz.prog HGfe6_29 := by
  letI : Env := (env (HGfv6 gg port))
  obtain ⟨c0, c1, c2, c3, c4, c5, c6, c7, c8, c9, c10, c11, c12, c13, c14, _⟩ := hc
  exact entCmp (k := .u32) (a := gg) (b := 167772415) rfl rfl (by show some ((gg : Int) == 167772415) = some false; rw [beq_eq_false_iff_ne.2 (by first | omega | (simp only [sumVal, oct.sumF, oct.F, oct.ws]; omega) | (simp only [sumVal, oct.sumF, oct.F, oct.ws] at *; omega))])
theorem HGfe6_30_ok (gg port : Int) (hg0 : 0 ≤ gg) (hg1 : gg ≤ 4294967295) (hp0 : -9223372036854775808 ≤ port) (hp1 : port ≤ 9223372036854775807) (hc : HGfK6 gg port) : @EntOK (env (HGfv6 gg port)) Tryz.prog HGfe6_30 := by
  letI : Env := (env (HGfv6 gg port))
  obtain ⟨c0, c1, c2, c3, c4, c5, c6, c7, c8, c9, c10, c11, c12, c13, c14, _⟩ := hc
  exact entCmp (k := .u32) (a := gg) (b := 3758096384) rfl rfl (by show some (decide ((gg : Int) ≥ 3758096384)) = some true; rw [decide_eq_true (by first | omega | (simp only [sumVal, oct.sumF, oct.F, oct.ws]; omega) | (simp only [sumVal, oct.sumF, oct.F, oct.ws] at *; omega))])
theorem HGfe6_31_ok (gg port : Int) (hg0 : 0 ≤ gg) (hg1 : gg ≤ 4294967295) (hp0 : -9223372036854775808 ≤ port) (hp1 : port ≤ 9223372036854775807) (hc : HGfK6 gg port) : @EntOK (env (HGfv6 gg port)) Tryz.prog HGfe6_31 := by
  letI : Env := (env (HGfv6 gg port))
  obtain ⟨c0, c1, c2, c3, c4, c5, c6, c7, c8, c9, c10, c11, c12, c13, c14, _⟩ := hc
  exact entCmp (k := .u32) (a := gg) (b := 4026531840) rfl rfl (by show some (decide ((gg : Int) < 4026531840)) = some true; rw [decide_eq_true (by first | omega | (simp only [sumVal, oct.sumF, oct.F, oct.ws]; omega) | (simp only [sumVal, oct.sumF, oct.F, oct.ws] at *; omega))])
theorem HGfe6_32_ok (gg port : Int) (hg0 : 0 ≤ gg) (hg1 : gg ≤ 4294967295) (hp0 : -9223372036854775808 ≤ port) (hp1 : port ≤ 9223372036854775807) (hc : HGfK6 gg port) : @EntOK (env (HGfv6 gg port)) Tryz.prog HGfe6_32 := by
  letI : Env := (env (HGfv6 gg port))
  obtain ⟨c0, c1, c2, c3, c4, c5, c6, c7, c8, c9, c10, c11, c12, c13, c14, _⟩ := hc
  exact entAnd (k := .u8) (a := ((gg / 65536) % 256)) (b := 127) rfl rfl rfl
theorem HGfe6_33_ok (gg port : Int) (hg0 : 0 ≤ gg) (hg1 : gg ≤ 4294967295) (hp0 : -9223372036854775808 ≤ port) (hp1 : port ≤ 9223372036854775807) (hc : HGfK6 gg port) : @EntOK (env (HGfv6 gg port)) Tryz.prog HGfe6_33 := by
  letI : Env := (env (HGfv6 gg port))
  obtain ⟨c0, c1, c2, c3, c4, c5, c6, c7, c8, c9, c10, c11, c12, c13, c14, _⟩ := hc
  exact ⟨by intro v hv; simp only [List.mem_cons, List.not_mem_nil, or_false] at hv; rcases hv with rfl | rfl | rfl | rfl | rfl | rfl <;> first | exact .inl ⟨_, _, rfl⟩ | exact .inr ⟨_, rfl⟩, by intro v hv; simp only [List.mem_cons, List.not_mem_nil, or_false] at hv; rcases hv with rfl | rfl | rfl | rfl | rfl | rfl <;> first | exact .inl ⟨_, _, rfl⟩ | exact .inr ⟨_, rfl⟩, by intro a1 a2 w; have e0 : ¬ (1 = 2) := (by first | omega | (simp only [sumVal, oct.sumF, oct.F, oct.ws]; omega) | (simp only [sumVal, oct.sumF, oct.F, oct.ws] at *; omega)); (refine eqMACd _ _ _ _ _ _ _ _ _ _ _ _ _ ?_ a1 a2 w; first | exact decide_eq_true (by omega) | exact decide_eq_false (by omega))⟩
theorem HGfe6_34_ok (gg port : Int) (hg0 : 0 ≤ gg) (hg1 : gg ≤ 4294967295) (hp0 : -9223372036854775808 ≤ port) (hp1 : port ≤ 9223372036854775807) (hc : HGfK6 gg port) : @EntOK (env (HGfv6 gg port)) Tryz.prog HGfe6_34 := by
  letI : Env := (env (HGfv6 gg port))
  obtain ⟨c0, c1, c2, c3, c4, c5, c6, c7, c8, c9, c10, c11, c12, c13, c14, _⟩ := hc
  exact ⟨by intro v hv; simp only [List.mem_cons, List.not_mem_nil, or_false] at hv; rcases hv with rfl | rfl | rfl | rfl | rfl | rfl <;> first | exact .inl ⟨_, _, rfl⟩ | exact .inr ⟨_, rfl⟩, by intro v hv; simp only [List.mem_cons, List.not_mem_nil, or_false] at hv; rcases hv with rfl | rfl | rfl | rfl | rfl | rfl <;> first | exact .inl ⟨_, _, rfl⟩ | exact .inr ⟨_, rfl⟩, by intro a1 a2 w; have e0 : ¬ (1 = 255) := (by first | omega | (simp only [sumVal, oct.sumF, oct.F, oct.ws]; omega) | (simp only [sumVal, oct.sumF, oct.F, oct.ws] at *; omega)); (refine eqMACd _ _ _ _ _ _ _ _ _ _ _ _ _ ?_ a1 a2 w; first | exact decide_eq_true (by omega) | exact decide_eq_false (by omega))⟩
theorem HGfe6_35_ok (gg port : Int) (hg0 : 0 ≤ gg) (hg1 : gg ≤ 4294967295) (hp0 : -9223372036854775808 ≤ port) (hp1 : port ≤ 9223372036854775807) (hc : HGfK6 gg port) : @EntOK (env (HGfv6 gg port)) Tryz.prog HGfe6_35 := by
  letI : Env := (env (HGfv6 gg port))
  obtain ⟨c0, c1, c2, c3, c4, c5, c6, c7, c8, c9, c10, c11, c12, c13, c14, _⟩ := hc
  exact ⟨by intro v hv; simp only [List.mem_cons, List.not_mem_nil, or_false] at hv; rcases hv with rfl | rfl | rfl | rfl | rfl | rfl <;> first | exact .inl ⟨_, _, rfl⟩ | exact .inr ⟨_, rfl⟩, by intro v hv; simp only [List.mem_cons, List.not_mem_nil, or_false] at hv; rcases hv with rfl | rfl | rfl | rfl | rfl | rfl <;> first | exact .inl ⟨_, _, rfl⟩ | exact .inr ⟨_, rfl⟩, by intro a1 a2 w; have e0 : (band .u8 ((gg / 65536) % 256) 127) = 0 := (by first | omega | (simp only [sumVal, oct.sumF, oct.F, oct.ws]; omega) | (simp only [sumVal, oct.sumF, oct.F, oct.ws] at *; omega)); have e1 : ¬ (((gg / 256) % 256) = 0) := (by first | omega | (simp only [sumVal, oct.sumF, oct.F, oct.ws]; omega) | (simp only [sumVal, oct.sumF, oct.F, oct.ws] at *; omega)); (refine eqMACd _ _ _ _ _ _ _ _ _ _ _ _ _ ?_ a1 a2 w; first | exact decide_eq_true (by omega) | exact decide_eq_false (by omega))⟩
theorem HGfp6_0_ok (gg port : Int) (hg0 : 0 ≤ gg) (hg1 : gg ≤ 4294967295) (hp0 : -9223372036854775808 ≤ port) (hp1 : port ≤ 9223372036854775807) (hc : HGfK6 gg port) : @PEntOK (env (HGfv6 gg port)) HGfp6_0 := by
  letI : Env := (env (HGfv6 gg port))
  obtain ⟨c0, c1, c2, c3, c4, c5, c6, c7, c8, c9, c10, c11, c12, c13, c14, _⟩ := hc
  exact ⟨[10, 0, 0, 1, (gg / 16777216), ((gg / 65536) % 256), ((gg / 256) % 256), (gg % 256), 0, 17, 0, 9, 0, 5, (((port % 18446744073709551616) / 256) % 256), ((port % 18446744073709551616) % 256), 0, 9, 0, 0, 120], rfl, by intro b hb; simp only [List.mem_cons, List.not_mem_nil, or_false] at hb; rcases hb with rfl | rfl | rfl | rfl | rfl | rfl | rfl | rfl | rfl | rfl | rfl | rfl | rfl | rfl | rfl | rfl | rfl | rfl | rfl | rfl | rfl <;> omega, by intro v hv; simp only [HGfp6_0, List.mem_cons, List.not_mem_nil, or_false] at hv; rcases hv with rfl | rfl | rfl | rfl | rfl | rfl | rfl | rfl | rfl | rfl | rfl | rfl | rfl | rfl | rfl | rfl | rfl | rfl | rfl | rfl | rfl <;> exact ⟨_, _, rfl⟩, .inr (.inl ⟨_, rfl, _, _, rfl⟩), rfl⟩
theorem HGfp6_1_ok (gg port : Int) (hg0 : 0 ≤ gg) (hg1 : gg ≤ 4294967295) (hp0 : -9223372036854775808 ≤ port) (hp1 : port ≤ 9223372036854775807) (hc : HGfK6 gg port) : @PEntOK (env (HGfv6 gg port)) HGfp6_1 := by
  letI : Env := (env (HGfv6 gg port))
  obtain ⟨c0, c1, c2, c3, c4, c5, c6, c7, c8, c9, c10, c11, c12, c13, c14, _⟩ := hc
  exact ⟨[69, 0, 0, 29, 0, 1, 0, 0, 64, 17, 0, 0, 10, 0, 0, 1, (gg / 16777216), ((gg / 65536) % 256), ((gg / 256) % 256), (gg % 256)], rfl, by intro b hb; simp only [List.mem_cons, List.not_mem_nil, or_false] at hb; rcases hb with rfl | rfl | rfl | rfl | rfl | rfl | rfl | rfl | rfl | rfl | rfl | rfl | rfl | rfl | rfl | rfl | rfl | rfl | rfl | rfl <;> omega, by intro v hv; simp only [HGfp6_1, List.mem_cons, List.not_mem_nil, or_false] at hv; rcases hv with rfl | rfl | rfl | rfl | rfl | rfl | rfl | rfl | rfl | rfl | rfl | rfl | rfl | rfl | rfl | rfl | rfl | rfl | rfl | rfl <;> exact ⟨_, _, rfl⟩, .inr (.inl ⟨_, rfl, _, _, rfl⟩), rfl⟩
theorem HGfe7_0_ok (gg port : Int) (hg0 : 0 ≤ gg) (hg1 : gg ≤ 4294967295) (hp0 : -9223372036854775808 ≤ port) (hp1 : port ≤ 9223372036854775807) (hc : HGfK7 gg port) : @EntOK (env (HGfv7 gg port)) Tryz.prog HGfe7_0 := by
  letI : Env := (env (HGfv7 gg port))
  obtain ⟨c0, c1, c2, c3, c4, c5, c6, c7, c8, c9, c10, c11, c12, c13, c14, _⟩ := hc
  exact entCmp (k := .i64) (a := port) (b := 1) rfl rfl (by show some (decide ((port : Int) < 1)) = some false; rw [decide_eq_false (by first | omega | (simp only [sumVal, oct.sumF, oct.F, oct.ws]; omega) | (simp only [sumVal, oct.sumF, oct.F, oct.ws] at *; omega))])
theorem HGfe7_1_ok (gg port : Int) (hg0 : 0 ≤ gg) (hg1 : gg ≤ 4294967295) (hp0 : -9223372036854775808 ≤ port) (hp1 : port ≤ 9223372036854775807) (hc : HGfK7 gg port) : @EntOK (env (HGfv7 gg port)) Tryz.prog HGfe7_1 := by
  letI : Env := (env (HGfv7 gg port))
  obtain ⟨c0, c1, c2, c3, c4, c5, c6, c7, c8, c9, c10, c11, c12, c13, c14, _⟩ := hc
  exact entCmp (k := .i64) (a := port) (b := 65535) rfl rfl (by show some (decide ((port : Int) > 65535)) = some false; rw [decide_eq_false (by first | omega | (simp only [sumVal, oct.sumF, oct.F, oct.ws]; omega) | (simp only [sumVal, oct.sumF, oct.F, oct.ws] at *; omega))])
theorem HGfe7_2_ok (gg port : Int) (hg0 : 0 ≤ gg) (hg1 : gg ≤ 4294967295) (hp0 : -9223372036854775808 ≤ port) (hp1 : port ≤ 9223372036854775807) (hc : HGfK7 gg port) : @EntOK (env (HGfv7 gg port)) Tryz.prog HGfe7_2 := by
  letI : Env := (env (HGfv7 gg port))
  obtain ⟨c0, c1, c2, c3, c4, c5, c6, c7, c8, c9, c10, c11, c12, c13, c14, _⟩ := hc
  exact entCmp (k := .u32) (a := gg) (b := 3758096385) rfl rfl (by show some (decide ((gg : Int) ≤ 3758096385)) = some false; rw [decide_eq_false (by first | omega | (simp only [sumVal, oct.sumF, oct.F, oct.ws]; omega) | (simp only [sumVal, oct.sumF, oct.F, oct.ws] at *; omega))])
theorem HGfe7_3_ok (gg port : Int) (hg0 : 0 ≤ gg) (hg1 : gg ≤ 4294967295) (hp0 : -9223372036854775808 ≤ port) (hp1 : port ≤ 9223372036854775807) (hc : HGfK7 gg port) : @EntOK (env (HGfv7 gg port)) Tryz.prog HGfe7_3 := by
  letI : Env := (env (HGfv7 gg port))
  obtain ⟨c0, c1, c2, c3, c4, c5, c6, c7, c8, c9, c10, c11, c12, c13, c14, _⟩ := hc
  exact entCmp (k := .u32) (a := gg) (b := 4026531840) rfl rfl (by show some (decide ((gg : Int) ≥ 4026531840)) = some false; rw [decide_eq_false (by first | omega | (simp only [sumVal, oct.sumF, oct.F, oct.ws]; omega) | (simp only [sumVal, oct.sumF, oct.F, oct.ws] at *; omega))])
theorem HGfe7_4_ok (gg port : Int) (hg0 : 0 ≤ gg) (hg1 : gg ≤ 4294967295) (hp0 : -9223372036854775808 ≤ port) (hp1 : port ≤ 9223372036854775807) (hc : HGfK7 gg port) : @EntOK (env (HGfv7 gg port)) Tryz.prog HGfe7_4 := by
  letI : Env := (env (HGfv7 gg port))
  obtain ⟨c0, c1, c2, c3, c4, c5, c6, c7, c8, c9, c10, c11, c12, c13, c14, _⟩ := hc
  exact entCmp (k := .i64) (a := port) (b := 1) rfl rfl (by show some (decide ((port : Int) ≥ 1)) = some true; rw [decide_eq_true (by first | omega | (simp only [sumVal, oct.sumF, oct.F, oct.ws]; omega) | (simp only [sumVal, oct.sumF, oct.F, oct.ws] at *; omega))])
theorem HGfe7_5_ok (gg port : Int) (hg0 : 0 ≤ gg) (hg1 : gg ≤ 4294967295) (hp0 : -9223372036854775808 ≤ port) (hp1 : port ≤ 9223372036854775807) (hc : HGfK7 gg port) : @EntOK (env (HGfv7 gg port)) Tryz.prog HGfe7_5 := by
  letI : Env := (env (HGfv7 gg port))
  obtain ⟨c0, c1, c2, c3, c4, c5, c6, c7, c8, c9, c10, c11, c12, c13, c14, _⟩ := hc
  exact entCmp (k := .i64) (a := port) (b := 65535) rfl rfl (by show some (decide ((port : Int) ≤ 65535)) = some true; rw [decide_eq_true (by first | omega | (simp only [sumVal, oct.sumF, oct.F, oct.ws]; omega) | (simp only [sumVal, oct.sumF, oct.F, oct.ws] at *; omega))])
theorem HGfe7_6_ok (gg port : Int) (hg0 : 0 ≤ gg) (hg1 : gg ≤ 4294967295) (hp0 : -9223372036854775808 ≤ port) (hp1 : port ≤ 9223372036854775807) (hc : HGfK7 gg port) : @EntOK (env (HGfv7 gg port)) Tryz.prog HGfe7_6 := by
  letI : Env := (env (HGfv7 gg port))
  obtain ⟨c0, c1, c2, c3, c4, c5, c6, c7, c8, c9, c10, c11, c12, c13, c14, _⟩ := hc
  exact entCmp (k := .i64) (a := port) (b := 0) rfl rfl (by show some (decide ((port : Int) ≥ 0)) = some true; rw [decide_eq_true (by first | omega | (simp only [sumVal, oct.sumF, oct.F, oct.ws]; omega) | (simp only [sumVal, oct.sumF, oct.F, oct.ws] at *; omega))])
theorem HGfe7_7_ok (gg port : Int) (hg0 : 0 ≤ gg) (hg1 : gg ≤ 4294967295) (hp0 : -9223372036854775808 ≤ port) (hp1 : port ≤ 9223372036854775807) (hc : HGfK7 gg port) : @EntOK (env (HGfv7 gg port)) Tryz.prog HGfe7_7 := by
  letI : Env := (env (HGfv7 gg port))
  obtain ⟨c0, c1, c2, c3, c4, c5, c6, c7, c8, c9, c10, c11, c12, c13, c14, _⟩ := hc
  exact entConvV (k := .u64) (l := .i64) (a := port) (c := (port % 18446744073709551616)) rfl rfl (by rw [IntKind.wrap_u64])
theorem HGfe7_8_ok (gg port : Int) (hg0 : 0 ≤ gg) (hg1 : gg ≤ 4294967295) (hp0 : -9223372036854775808 ≤ port) (hp1 : port ≤ 9223372036854775807) (hc : HGfK7 gg port) : @EntOK (env (HGfv7 gg port)) Tryz.prog HGfe7_8 := by
  letI : Env := (env (HGfv7 gg port))
  obtain ⟨c0, c1, c2, c3, c4, c5, c6, c7, c8, c9, c10, c11, c12, c13, c14, _⟩ := hc
  exact entShrV (k := .u64) (l := .u64) (a := (port % 18446744073709551616)) (c := ((port % 18446744073709551616) / 256)) (s := 8) rfl rfl rfl (by decide) (by exact fdiv_nat _ 256)
theorem HGfe7_9_ok (gg port : Int) (hg0 : 0 ≤ gg) (hg1 : gg ≤ 4294967295) (hp0 : -9223372036854775808 ≤ port) (hp1 : port ≤ 9223372036854775807) (hc : HGfK7 gg port) : @EntOK (env (HGfv7 gg port)) Tryz.prog HGfe7_9 := by
  letI : Env := (env (HGfv7 gg port))
  obtain ⟨c0, c1, c2, c3, c4, c5, c6, c7, c8, c9, c10, c11, c12, c13, c14, _⟩ := hc
  exact entConvV (k := .u8) (l := .u64) (a := ((port % 18446744073709551616) / 256)) (c := (((port % 18446744073709551616) / 256) % 256)) rfl rfl (by rw [IntKind.wrap_u8])
theorem HGfe7_10_ok (gg port : Int) (hg0 : 0 ≤ gg) (hg1 : gg ≤ 4294967295) (hp0 : -9223372036854775808 ≤ port) (hp1 : port ≤ 9223372036854775807) (hc : HGfK7 gg port) : @EntOK (env (HGfv7 gg port)) Tryz.prog HGfe7_10 := by
  letI : Env := (env (HGfv7 gg port))
  obtain ⟨c0, c1, c2, c3, c4, c5, c6, c7, c8, c9, c10, c11, c12, c13, c14, _⟩ := hc
  exact entConvV (k := .u8) (l := .u64) (a := (port % 18446744073709551616)) (c := ((port % 18446744073709551616) % 256)) rfl rfl (by rw [IntKind.wrap_u8])
theorem HGfe7_11_ok (gg port : Int) (hg0 : 0 ≤ gg) (hg1 : gg ≤ 4294967295) (hp0 : -9223372036854775808 ≤ port) (hp1 : port ≤ 9223372036854775807) (hc : HGfK7 gg port) : @EntOK (env (HGfv7 gg port)) Tryz.prog HGfe7_11 := by
  letI : Env := (env (HGfv7 gg port))
  obtain ⟨c0, c1, c2, c3, c4, c5, c6, c7, c8, c9, c10, c11, c12, c13, c14, _⟩ := hc
  exact entShrV (k := .u32) (l := .u64) (a := gg) (c := (gg / 16777216)) (s := 24) rfl rfl rfl (by decide) (by exact fdiv_nat _ 16777216)
theorem HGfe7_12_ok (gg port : Int) (hg0 : 0 ≤ gg) (hg1 : gg ≤ 4294967295) (hp0 : -9223372036854775808 ≤ port) (hp1 : port ≤ 9223372036854775807) (hc : HGfK7 gg port) : @EntOK (env (HGfv7 gg port)) Tryz.prog HGfe7_12 := by
  letI : Env := (env (HGfv7 gg port))
  obtain ⟨c0, c1, c2, c3, c4, c5, c6, c7, c8, c9, c10, c11, c12, c13, c14, _⟩ := hc
  exact entConvV (k := .u8) (l := .u32) (a := (gg / 16777216)) (c := (gg / 16777216)) rfl rfl (by rw [IntWalk.u8_in _ (by first | omega | (simp only [sumVal, oct.sumF, oct.F, oct.ws]; omega) | (simp only [sumVal, oct.sumF, oct.F, oct.ws] at *; omega))])
theorem HGfe7_13_ok (gg port : Int) (hg0 : 0 ≤ gg) (hg1 : gg ≤ 4294967295) (hp0 : -9223372036854775808 ≤ port) (hp1 : port ≤ 9223372036854775807) (hc : HGfK7 gg port) : @EntOK (env (HGfv7 gg port)) Tryz.prog HGfe7_13 := by
  letI : Env := (env (HGfv7 gg port))
  obtain ⟨c0, c1, c2, c3, c4, c5, c6, c7, c8, c9, c10, c11, c12, c13, c14, _⟩ := hc
  exact entShrV (k := .u32) (l := .u64) (a := gg) (c := (gg / 65536)) (s := 16) rfl rfl rfl (by decide) (by exact fdiv_nat _ 65536)
theorem HGfe7_14_ok (gg port : Int) (hg0 : 0 ≤ gg) (hg1 : gg ≤ 4294967295) (hp0 : -9223372036854775808 ≤ port) (hp1 : port ≤ 9223372036854775807) (hc : HGfK7 gg port) : @EntOK (env (HGfv7 gg port)) Tryz.prog HGfe7_14 := by
  letI : Env := (env (HGfv7 gg port))
  obtain ⟨c0, c1, c2, c3, c4, c5, c6, c7, c8, c9, c10, c11, c12, c13, c14, _⟩ := hc
  exact entConvV (k := .u8) (l := .u32) (a := (gg / 65536)) (c := ((gg / 65536) % 256)) rfl rfl (by rw [IntKind.wrap_u8])
theorem HGfe7_15_ok (gg port : Int) (hg0 : 0 ≤ gg) (hg1 : gg ≤ 4294967295) (hp0 : -9223372036854775808 ≤ port) (hp1 : port ≤ 9223372036854775807) (hc : HGfK7 gg port) : @EntOK (env (HGfv7 gg port)) Tryz.prog HGfe7_15 := by
  letI : Env := (env (HGfv7 gg port))
  obtain ⟨c0, c1, c2, c3, c4, c5, c6, c7, c8, c9, c10, c11, c12, c13, c14, _⟩ := hc
  exact entShrV (k := .u32) (l := .u64) (a := gg) (c := (gg / 256)) (s := 8) rfl rfl rfl (by decide) (by exact fdiv_nat _ 256)
theorem HGfe7_16_ok (gg port : Int) (hg0 : 0 ≤ gg) (hg1 : gg ≤ 4294967295) (hp0 : -9223372036854775808 ≤ port) (hp1 : port ≤ 9223372036854775807) (hc : HGfK7 gg port) : @EntOK (env (HGfv7 gg port)) Tryz.prog HGfe7_16 := by
  letI : Env := (env (HGfv7 gg port))
  obtain ⟨c0, c1, c2, c3, c4, c5, c6, c7, c8, c9, c10, c11, c12, c13, c14, _⟩ := hc
  exact entConvV (k := .u8) (l := .u32) (a := (gg / 256)) (c := ((gg / 256) % 256)) rfl rfl (by rw [IntKind.wrap_u8])
theorem HGfe7_17_ok (gg port : Int) (hg0 : 0 ≤ gg) (hg1 : gg ≤ 4294967295) (hp0 : -9223372036854775808 ≤ port) (hp1 : port ≤ 9223372036854775807) (hc : HGfK7 gg port) : @EntOK (env (HGfv7 gg port)) Tryz.prog HGfe7_17 := by
  letI : Env := (env (HGfv7 gg port))
  obtain ⟨c0, c1, c2, c3, c4, c5, c6, c7, c8, c9, c10, c11, c12, c13, c14, _⟩ := hc
  exact entConvV (k := .u8) (l := .u32) (a := gg) (c := (gg % 256)) rfl rfl (by rw [IntKind.wrap_u8])
theorem HGfe7_18_ok (gg port : Int) (hg0 : 0 ≤ gg) (hg1 : gg ≤ 4294967295) (hp0 : -9223372036854775808 ≤ port) (hp1 : port ≤ 9223372036854775807) (hc : HGfK7 gg port) : @EntOK (env (HGfv7 gg port)) Tryz.prog HGfe7_18 := by
  letI : Env := (env (HGfv7 gg port))
  obtain ⟨c0, c1, c2, c3, c4, c5, c6, c7, c8, c9, c10, c11, c12, c13, c14, _⟩ := hc
  have bd0 := sumVal_bd true [10, 0, 0, 1, (gg / 16777216), ((gg / 65536) % 256), ((gg / 256) % 256), (gg % 256), 0, 17, 0, 9, 0, 5, (((port % 18446744073709551616) / 256) % 256), ((port % 18446744073709551616) % 256), 0, 9, 0, 0, 120] (by intro b hb; simp only [List.mem_cons, List.not_mem_nil, or_false] at hb; rcases hb with rfl | rfl | rfl | rfl | rfl | rfl | rfl | rfl | rfl | rfl | rfl | rfl | rfl | rfl | rfl | rfl | rfl | rfl | rfl | rfl | rfl <;> omega)
  exact entCmp (k := .i64) (a := (sumVal true [10, 0, 0, 1, (gg / 16777216), ((gg / 65536) % 256), ((gg / 256) % 256), (gg % 256), 0, 17, 0, 9, 0, 5, (((port % 18446744073709551616) / 256) % 256), ((port % 18446744073709551616) % 256), 0, 9, 0, 0, 120])) (b := 0) rfl rfl (by show some (((sumVal true [10, 0, 0, 1, (gg / 16777216), ((gg / 65536) % 256), ((gg / 256) % 256), (gg % 256), 0, 17, 0, 9, 0, 5, (((port % 18446744073709551616) / 256) % 256), ((port % 18446744073709551616) % 256), 0, 9, 0, 0, 120]) : Int) == 0) = some true; rw [beq_iff_eq.2 (by first | omega | (simp only [sumVal, oct.sumF, oct.F, oct.ws]; omega) | (simp only [sumVal, oct.sumF, oct.F, oct.ws] at *; omega))])
theorem HGfe7_19_ok (gg port : Int) (hg0 : 0 ≤ gg) (hg1 : gg ≤ 4294967295) (hp0 : -9223372036854775808 ≤ port) (hp1 : port ≤ 9223372036854775807) (hc : HGfK7 gg port) : @EntOK (env (HGfv7 gg port)) Tryz.prog HGfe7_19 := by
  letI : Env := (env (HGfv7 gg port))
  obtain ⟨c0, c1, c2, c3, c4, c5, c6, c7, c8, c9, c10, c11, c12, c13, c14, _⟩ := hc
  have bd1 := sumVal_bd true [69, 0, 0, 29, 0, 1, 0, 0, 64, 17, 0, 0, 10, 0, 0, 1, (gg / 16777216), ((gg / 65536) % 256), ((gg / 256) % 256), (gg % 256)] (by intro b hb; simp only [List.mem_cons, List.not_mem_nil, or_false] at hb; rcases hb with rfl | rfl | rfl | rfl | rfl | rfl | rfl | rfl | rfl | rfl | rfl | rfl | rfl | rfl | rfl | rfl | rfl | rfl | rfl | rfl <;> omega)
  exact entConvV (k := .u64) (l := .i64) (a := (sumVal true [69, 0, 0, 29, 0, 1, 0, 0, 64, 17, 0, 0, 10, 0, 0, 1, (gg / 16777216), ((gg / 65536) % 256), ((gg / 256) % 256), (gg % 256)])) (c := (sumVal true [69, 0, 0, 29, 0, 1, 0, 0, 64, 17, 0, 0, 10, 0, 0, 1, (gg / 16777216), ((gg / 65536) % 256), ((gg / 256) % 256), (gg % 256)])) rfl rfl (by rw [IntWalk.u64_in _ (by first | omega | (simp only [sumVal, oct.sumF, oct.F, oct.ws]; omega) | (simp only [sumVal, oct.sumF, oct.F, oct.ws] at *; omega))])
theorem HGfe7_20_ok (gg port : Int) (hg0 : 0 ≤ gg) (hg1 : gg ≤ 4294967295) (hp0 : -9223372036854775808 ≤ port) (hp1 : port ≤ 9223372036854775807) (hc : HGfK7 gg port) : @EntOK (env (HGfv7 gg port)) Tryz.prog HGfe7_20 := by
  letI : Env := (env (HGfv7 gg port))
  obtain ⟨c0, c1, c2, c3, c4, c5, c6, c7, c8, c9, c10, c11, c12, c13, c14, _⟩ := hc
  have bd1 := sumVal_bd true [69, 0, 0, 29, 0, 1, 0, 0, 64, 17, 0, 0, 10, 0, 0, 1, (gg / 16777216), ((gg / 65536) % 256), ((gg / 256) % 256), (gg % 256)] (by intro b hb; simp only [List.mem_cons, List.not_mem_nil, or_false] at hb; rcases hb with rfl | rfl | rfl | rfl | rfl | rfl | rfl | rfl | rfl | rfl | rfl | rfl | rfl | rfl | rfl | rfl | rfl | rfl | rfl | rfl <;> omega)
  exact entShrV (k := .u64) (l := .u64) (a := (sumVal true [69, 0, 0, 29, 0, 1, 0, 0, 64, 17, 0, 0, 10, 0, 0, 1, (gg / 16777216), ((gg / 65536) % 256), ((gg / 256) % 256), (gg % 256)])) (c := ((sumVal true [69, 0, 0, 29, 0, 1, 0, 0, 64, 17, 0, 0, 10, 0, 0, 1, (gg / 16777216), ((gg / 65536) % 256), ((gg / 256) % 256), (gg % 256)]) / 256)) (s := 8) rfl rfl rfl (by decide) (by exact fdiv_nat _ 256)
theorem HGfe7_21_ok (gg port : Int) (hg0 : 0 ≤ gg) (hg1 : gg ≤ 4294967295) (hp0 : -9223372036854775808 ≤ port) (hp1 : port ≤ 9223372036854775807) (hc : HGfK7 gg port) : @EntOK (env (HGfv7 gg port)) Tryz.prog HGfe7_21 := by
  letI : Env := (env (HGfv7 gg port))
  obtain ⟨c0, c1, c2, c3, c4, c5, c6, c7, c8, c9, c10, c11, c12, c13, c14, _⟩ := hc
  have bd1 := sumVal_bd true [69, 0, 0, 29, 0, 1, 0, 0, 64, 17, 0, 0, 10, 0, 0, 1, (gg / 16777216), ((gg / 65536) % 256), ((gg / 256) % 256), (gg % 256)] (by intro b hb; simp only [List.mem_cons, List.not_mem_nil, or_false] at hb; rcases hb with rfl | rfl | rfl | rfl | rfl | rfl | rfl | rfl | rfl | rfl | rfl | rfl | rfl | rfl | rfl | rfl | rfl | rfl | rfl | rfl <;> omega)
  exact entConvV (k := .u8) (l := .u64) (a := ((sumVal true [69, 0, 0, 29, 0, 1, 0, 0, 64, 17, 0, 0, 10, 0, 0, 1, (gg / 16777216), ((gg / 65536) % 256), ((gg / 256) % 256), (gg % 256)]) / 256)) (c := ((sumVal true [69, 0, 0, 29, 0, 1, 0, 0, 64, 17, 0, 0, 10, 0, 0, 1, (gg / 16777216), ((gg / 65536) % 256), ((gg / 256) % 256), (gg % 256)]) / 256)) rfl rfl (by rw [IntWalk.u8_in _ (by first | omega | (simp only [sumVal, oct.sumF, oct.F, oct.ws]; omega) | (simp only [sumVal, oct.sumF, oct.F, oct.ws] at *; omega))])
theorem HGfe7_22_ok (gg port : Int) (hg0 : 0 ≤ gg) (hg1 : gg ≤ 4294967295) (hp0 : -9223372036854775808 ≤ port) (hp1 : port ≤ 9223372036854775807) (hc : HGfK7 gg port) : @EntOK (env (HGfv7 gg port)) Tryz.prog HGfe7_22 := by
  letI : Env := (env (HGfv7 gg port))
  obtain ⟨c0, c1, c2, c3, c4, c5, c6, c7, c8, c9, c10, c11, c12, c13, c14, _⟩ := hc
  have bd1 := sumVal_bd true [69, 0, 0, 29, 0, 1, 0, 0, 64, 17, 0, 0, 10, 0, 0, 1, (gg / 16777216), ((gg / 65536) % 256), ((gg / 256) % 256), (gg % 256)] (by intro b hb; simp only [List.mem_cons, List.not_mem_nil, or_false] at hb; rcases hb with rfl | rfl | rfl | rfl | rfl | rfl | rfl | rfl | rfl | rfl | rfl | rfl | rfl | rfl | rfl | rfl | rfl | rfl | rfl | rfl <;> omega)
  exact entConvV (k := .u8) (l := .u64) (a := (sumVal true [69, 0, 0, 29, 0, 1, 0, 0, 64, 17, 0, 0, 10, 0, 0, 1, (gg / 16777216), ((gg / 65536) % 256), ((gg / 256) % 256), (gg % 256)])) (c := ((sumVal true [69, 0, 0, 29, 0, 1, 0, 0, 64, 17, 0, 0, 10, 0, 0, 1, (gg / 16777216), ((gg / 65536) % 256), ((gg / 256) % 256), (gg % 256)]) % 256)) rfl rfl (by rw [IntKind.wrap_u8])
theorem HGfe7_23_ok (gg port : Int) (hg0 : 0 ≤ gg) (hg1 : gg ≤ 4294967295) (hp0 : -9223372036854775808 ≤ port) (hp1 : port ≤ 9223372036854775807) (hc : HGfK7 gg port) : @EntOK (env (HGfv7 gg port)) Tryz.prog HGfe7_23 := by
  letI : Env := (env (HGfv7 gg port))
  obtain ⟨c0, c1, c2, c3, c4, c5, c6, c7, c8, c9, c10, c11, c12, c13, c14, _⟩ := hc
  exact entCmp (k := .u32) (a := gg) (b := 167772161) rfl rfl (by show some ((gg : Int) == 167772161) = some false; rw [beq_eq_false_iff_ne.2 (by first | omega | (simp only [sumVal, oct.sumF, oct.F, oct.ws]; omega) | (simp only [sumVal, oct.sumF, oct.F, oct.ws] at *; omega))])
theorem HGfe7_24_ok (gg port : Int) (hg0 : 0 ≤ gg) (hg1 : gg ≤ 4294967295) (hp0 : -9223372036854775808 ≤ port) (hp1 : port ≤ 9223372036854775807) (hc : HGfK7 gg port) : @EntOK (env (HGfv7 gg port)) Tryz.prog HGfe7_24 := by
  letI : Env := (env (HGfv7 gg port))
  obtain ⟨c0, c1, c2, c3, c4, c5, c6, c7, c8, c9, c10, c11, c12, c13, c14, _⟩ := hc
  exact entCmp (k := .u32) (a := gg) (b := 4294967295) rfl rfl (by show some ((gg : Int) == 4294967295) = some false; rw [beq_eq_false_iff_ne.2 (by first | omega | (simp only [sumVal, oct.sumF, oct.F, oct.ws]; omega) | (simp only [sumVal, oct.sumF, oct.F, oct.ws] at *; omega))])
theorem HGfe7_25_ok (gg port : Int) (hg0 : 0 ≤ gg) (hg1 : gg ≤ 4294967295) (hp0 : -9223372036854775808 ≤ port) (hp1 : port ≤ 9223372036854775807) (hc : HGfK7 gg port) : @EntOK (env (HGfv7 gg port)) Tryz.prog HGfe7_25 := by
  letI : Env := (env (HGfv7 gg port))
  obtain ⟨c0, c1, c2, c3, c4, c5, c6, c7, c8, c9, c10, c11, c12, c13, c14, _⟩ := hc
  exact entCmp (k := .u32) (a := gg) (b := 167772415) rfl rfl (by show some ((gg : Int) == 167772415) = some false; rw [beq_eq_false_iff_ne.2 (by first | omega | (simp only [sumVal, oct.sumF, oct.F, oct.ws]; omega) | (simp only [sumVal, oct.sumF, oct.F, oct.ws] at *; omega))])
theorem HGfe7_26_ok (gg port : Int) (hg0 : 0 ≤ gg) (hg1 : gg ≤ 4294967295) (hp0 : -9223372036854775808 ≤ port) (hp1 : port ≤ 9223372036854775807) (hc : HGfK7 gg port) : @EntOK (env (HGfv7 gg port)) Tryz.prog HGfe7_26 := by
  letI : Env := (env (HGfv7 gg port))
  obtain ⟨c0, c1, c2, c3, c4, c5, c6, c7, c8, c9, c10, c11, c12, c13, c14, _⟩ := hc
  exact entCmp (k := .u32) (a := gg) (b := 3758096384) rfl rfl (by show some (decide ((gg : Int) ≥ 3758096384)) = some true; rw [decide_eq_true (by first | omega | (simp only [sumVal, oct.sumF, oct.F, oct.ws]; omega) | (simp only [sumVal, oct.sumF, oct.F, oct.ws] at *; omega))])
theorem HGfe7_27_ok (gg port : Int) (hg0 : 0 ≤ gg) (hg1 : gg ≤ 4294967295) (hp0 : -9223372036854775808 ≤ port) (hp1 : port ≤ 9223372036854775807) (hc : HGfK7 gg port) : @EntOK (env (HGfv7 gg port)) Tryz.prog HGfe7_27 := by
  letI : Env := (env (HGfv7 gg port))
  obtain ⟨c0, c1, c2, c3, c4, c5, c6, c7, c8, c9, c10, c11, c12, c13, c14, _⟩ := hc
  exact entCmp (k := .u32) (a := gg) (b := 4026531840) rfl rfl (by show some (decide ((gg : Int) < 4026531840)) = some true; rw [decide_eq_true (by first | omega | (simp only [sumVal, oct.sumF, oct.F, oct.ws]; omega) | (simp only [sumVal, oct.sumF, oct.F, oct.ws] at *; omega))])
theorem HGfe7_28_ok (gg port : Int) (hg0 : 0 ≤ gg) (hg1 : gg ≤ 4294967295) (hp0 : -9223372036854775808 ≤ port) (hp1 : port ≤ 9223372036854775807) (hc : HGfK7 gg port) : @EntOK (env (HGfv7 gg port)) Tryz.prog HGfe7_28 := by
  letI : Env := (env (HGfv7 gg port))
  obtain ⟨c0, c1, c2, c3, c4, c5, c6, c7, c8, c9, c10, c11, c12, c13, c14, _⟩ := hc
  exact entAnd (k := .u8) (a := ((gg / 65536) % 256)) (b := 127) rfl rfl rfl
theorem HGfe7_29_ok (gg port : Int) (hg0 : 0 ≤ gg) (hg1 : gg ≤ 4294967295) (hp0 : -9223372036854775808 ≤ port) (hp1 : port ≤ 9223372036854775807) (hc : HGfK7 gg port) : @EntOK (env (HGfv7 gg port)) Tryz.prog HGfe7_29 := by
  letI : Env := (env (HGfv7 gg port))
  obtain ⟨c0, c1, c2, c3, c4, c5, c6, c7, c8, c9, c10, c11, c12, c13, c14, _⟩ := hc
  exact ⟨by intro v hv; simp only [List.mem_cons, List.not_mem_nil, or_false] at hv; rcases hv with rfl | rfl | rfl | rfl | rfl | rfl <;> first | exact .inl ⟨_, _, rfl⟩ | exact .inr ⟨_, rfl⟩, by intro v hv; simp only [List.mem_cons, List.not_mem_nil, or_false] at hv; rcases hv with rfl | rfl | rfl | rfl | rfl | rfl <;> first | exact .inl ⟨_, _, rfl⟩ | exact .inr ⟨_, rfl⟩, by intro a1 a2 w; have e0 : ¬ (1 = 2) := (by first | omega | (simp only [sumVal, oct.sumF, oct.F, oct.ws]; omega) | (simp only [sumVal, oct.sumF, oct.F, oct.ws] at *; omega)); (refine eqMACd _ _ _ _ _ _ _ _ _ _ _ _ _ ?_ a1 a2 w; first | exact decide_eq_true (by omega) | exact decide_eq_false (by omega))⟩
theorem HGfe7_30_ok (gg port : Int) (hg0 : 0 ≤ gg) (hg1 : gg ≤ 4294967295) (hp0 : -9223372036854775808 ≤ port) (hp1 : port ≤ 9223372036854775807) (hc : HGfK7 gg port) : @EntOK (env (HGfv7 gg port)) Tryz.prog HGfe7_30 := by
  letI : Env := (env (HGfv7 gg port))
  obtain ⟨c0, c1, c2, c3, c4, c5, c6, c7, c8, c9, c10, c11, c12, c13, c14, _⟩ := hc
  exact ⟨by intro v hv; simp only [List.mem_cons, List.not_mem_nil, or_false] at hv; rcases hv with rfl | rfl | rfl | rfl | rfl | rfl <;> first | exact .inl ⟨_, _, rfl⟩ | exact .inr ⟨_, rfl⟩, by intro v hv; simp only [List.mem_cons, List.not_mem_nil, or_false] at hv; rcases hv with rfl | rfl | rfl | rfl | rfl | rfl <;> first | exact .inl ⟨_, _, rfl⟩ | exact .inr ⟨_, rfl⟩, by intro a1 a2 w; have e0 : ¬ (1 = 255) := (by first | omega | (simp only [sumVal, oct.sumF, oct.F, oct.ws]; omega) | (simp only [sumVal, oct.sumF, oct.F, oct.ws] at *; omega)); (refine eqMACd _ _ _ _ _ _ _ _ _ _ _ _ _ ?_ a1 a2 w; first | exact decide_eq_true (by omega) | exact decide_eq_false (by omega))⟩
theorem HGfe7_31_ok (gg port : Int) (hg0 : 0 ≤ gg) (hg1 : gg ≤ 4294967295) (hp0 : -9223372036854775808 ≤ port) (hp1 : port ≤ 9223372036854775807) (hc : HGfK7 gg port) : @EntOK (env (HGfv7 gg port)) Tryz.prog HGfe7_31 := by
  letI : Env := (env (HGfv7 gg port))
  obtain ⟨c0, c1, c2, c3, c4, c5, c6, c7, c8, c9, c10, c11, c12, c13, c14, _⟩ := hc
  exact ⟨by intro v hv; simp only [List.mem_cons, List.not_mem_nil, or_false] at hv; rcases hv with rfl | rfl | rfl | rfl | rfl | rfl <;> first | exact .inl ⟨_, _, rfl⟩ | exact .inr ⟨_, rfl⟩, by intro v hv; simp only [List.mem_cons, List.not_mem_nil, or_false] at hv; rcases hv with rfl | rfl | rfl | rfl | rfl | rfl <;> first | exact .inl ⟨_, _, rfl⟩ | exact .inr ⟨_, rfl⟩, by intro a1 a2 w; have e0 : (band .u8 ((gg / 65536) % 256) 127) = 0 := (by first | omega | (simp only [sumVal, oct.sumF, oct.F, oct.ws]; omega) | (simp only [sumVal, oct.sumF, oct.F, oct.ws] at *; omega)); have e1 : ¬ (((gg / 256) % 256) = 0) := (by first | omega | (simp only [sumVal, oct.sumF, oct.F, oct.ws]; omega) | (simp only [sumVal, oct.sumF, oct.F, oct.ws] at *; omega)); (refine eqMACd _ _ _ _ _ _ _ _ _ _ _ _ _ ?_ a1 a2 w; first | exact decide_eq_true (by omega) | exact decide_eq_false (by omega))⟩
theorem HGfp7_0_ok (gg port : Int) (hg0 : 0 ≤ gg) (hg1 : gg ≤ 4294967295) (hp0 : -9223372036854775808 ≤ port) (hp1 : port ≤ 9223372036854775807) (hc : HGfK7 gg port) : @PEntOK (env (HGfv7 gg port)) HGfp7_0 := by
  letI : Env := (env (HGfv7 gg port))
  obtain ⟨c0, c1, c2, c3, c4, c5, c6, c7, c8, c9, c10, c11, c12, c13, c14, _⟩ := hc
  exact ⟨[10, 0, 0, 1, (gg / 16777216), ((gg / 65536) % 256), ((gg / 256) % 256), (gg % 256), 0, 17, 0, 9, 0, 5, (((port % 18446744073709551616) / 256) % 256), ((port % 18446744073709551616) % 256), 0, 9, 0, 0, 120], rfl, by intro b hb; simp only [List.mem_cons, List.not_mem_nil, or_false] at hb; rcases hb with rfl | rfl | rfl | rfl | rfl | rfl | rfl | rfl | rfl | rfl | rfl | rfl | rfl | rfl | rfl | rfl | rfl | rfl | rfl | rfl | rfl <;> omega, by intro v hv; simp only [HGfp7_0, List.mem_cons, List.not_mem_nil, or_false] at hv; rcases hv with rfl | rfl | rfl | rfl | rfl | rfl | rfl | rfl | rfl | rfl | rfl | rfl | rfl | rfl | rfl | rfl | rfl | rfl | rfl | rfl | rfl <;> exact ⟨_, _, rfl⟩, .inr (.inl ⟨_, rfl, _, _, rfl⟩), rfl⟩
theorem HGfp7_1_ok (gg port : Int) (hg0 : 0 ≤ gg) (hg1 : gg ≤ 4294967295) (hp0 : -9223372036854775808 ≤ port) (hp1 : port ≤ 9223372036854775807) (hc : HGfK7 gg port) : @PEntOK (env (HGfv7 gg port)) HGfp7_1 := by
  letI : Env := (env (HGfv7 gg port))
  obtain ⟨c0, c1, c2, c3, c4, c5, c6, c7, c8, c9, c10, c11, c12, c13, c14, _⟩ := hc
  exact ⟨[69, 0, 0, 29, 0, 1, 0, 0, 64, 17, 0, 0, 10, 0, 0, 1, (gg / 16777216), ((gg / 65536) % 256), ((gg / 256) % 256), (gg % 256)], rfl, by intro b hb; simp only [List.mem_cons, List.not_mem_nil, or_false] at hb; rcases hb with rfl | rfl | rfl | rfl | rfl | rfl | rfl | rfl | rfl | rfl | rfl | rfl | rfl | rfl | rfl | rfl | rfl | rfl | rfl | rfl <;> omega, by intro v hv; simp only [HGfp7_1, List.mem_cons, List.not_mem_nil, or_false] at hv; rcases hv with rfl | rfl | rfl | rfl | rfl | rfl | rfl | rfl | rfl | rfl | rfl | rfl | rfl | rfl | rfl | rfl | rfl | rfl | rfl | rfl <;> exact ⟨_, _, rfl⟩, .inr (.inl ⟨_, rfl, _, _, rfl⟩), rfl⟩
theorem HGfe8_0_ok (gg port : Int) (hg0 : 0 ≤ gg) (hg1 : gg ≤ 4294967295) (hp0 : -9223372036854775808 ≤ port) (hp1 : port ≤ 9223372036854775807) (hc : HGfK8 gg port) : @EntOK (env (HGfv8 gg port)) Tryz.prog HGfe8_0 := by
  letI : Env := (env (HGfv8 gg port))
  obtain ⟨c0, c1, c2, c3, c4, c5, c6, c7, c8, c9, c10, c11, c12, c13, c14, c15, _⟩ := hc
  exact entCmp (k := .i64) (a := port) (b := 1) rfl rfl (by show some (decide ((port : Int) < 1)) = some false; rw [decide_eq_false (by first | omega | (simp only [sumVal, oct.sumF, oct.F, oct.ws]; omega) | (simp only [sumVal, oct.sumF, oct.F, oct.ws] at *; omega))])
theorem HGfe8_1_ok (gg port : Int) (hg0 : 0 ≤ gg) (hg1 : gg ≤ 4294967295) (hp0 : -9223372036854775808 ≤ port) (hp1 : port ≤ 9223372036854775807) (hc : HGfK8 gg port) : @EntOK (env (HGfv8 gg port)) Tryz.prog HGfe8_1 := by
  letI : Env := (env (HGfv8 gg port))
  obtain ⟨c0, c1, c2, c3, c4, c5, c6, c7, c8, c9, c10, c11, c12, c13, c14, c15, _⟩ := hc
  exact entCmp (k := .i64) (a := port) (b := 65535) rfl rfl (by show some (decide ((port : Int) > 65535)) = some false; rw [decide_eq_false (by first | omega | (simp only [sumVal, oct.sumF, oct.F, oct.ws]; omega) | (simp only [sumVal, oct.sumF, oct.F, oct.ws] at *; omega))])
theorem HGfe8_2_ok (gg port : Int) (hg0 : 0 ≤ gg) (hg1 : gg ≤ 4294967295) (hp0 : -9223372036854775808 ≤ port) (hp1 : port ≤ 9223372036854775807) (hc : HGfK8 gg port) : @EntOK (env (HGfv8 gg port)) Tryz.prog HGfe8_2 := by
  letI : Env := (env (HGfv8 gg port))
  obtain ⟨c0, c1, c2, c3, c4, c5, c6, c7, c8, c9, c10, c11, c12, c13, c14, c15, _⟩ := hc
  exact entCmp (k := .u32) (a := gg) (b := 3758096385) rfl rfl (by show some (decide ((gg : Int) ≤ 3758096385)) = some false; rw [decide_eq_false (by first | omega | (simp only [sumVal, oct.sumF, oct.F, oct.ws]; omega) | (simp only [sumVal, oct.sumF, oct.F, oct.ws] at *; omega))])
theorem HGfe8_3_ok (gg port : Int) (hg0 : 0 ≤ gg) (hg1 : gg ≤ 4294967295) (hp0 : -9223372036854775808 ≤ port) (hp1 : port ≤ 9223372036854775807) (hc : HGfK8 gg port) : @EntOK (env (HGfv8 gg port)) Tryz.prog HGfe8_3 := by
  letI : Env := (env (HGfv8 gg port))
  obtain ⟨c0, c1, c2, c3, c4, c5, c6, c7, c8, c9, c10, c11, c12, c13, c14, c15, _⟩ := hc
  exact entCmp (k := .u32) (a := gg) (b := 4026531840) rfl rfl (by show some (decide ((gg : Int) ≥ 4026531840)) = some false; rw [decide_eq_false (by first | omega | (simp only [sumVal, oct.sumF, oct.F, oct.ws]; omega) | (simp only [sumVal, oct.sumF, oct.F, oct.ws] at *; omega))])
theorem HGfe8_4_ok (gg port : Int) (hg0 : 0 ≤ gg) (hg1 : gg ≤ 4294967295) (hp0 : -9223372036854775808 ≤ port) (hp1 : port ≤ 9223372036854775807) (hc : HGfK8 gg port) : @EntOK (env (HGfv8 gg port)) Tryz.prog HGfe8_4 := by
  letI : Env := (env (HGfv8 gg port))
  obtain ⟨c0, c1, c2, c3, c4, c5, c6, c7, c8, c9, c10, c11, c12, c13, c14, c15, _⟩ := hc
  exact entCmp (k := .i64) (a := port) (b := 1) rfl rfl (by show some (decide ((port : Int) ≥ 1)) = some true; rw [decide_eq_true (by first | omega | (simp only [sumVal, oct.sumF, oct.F, oct.ws]; omega) | (simp only [sumVal, oct.sumF, oct.F, oct.ws] at *; omega))])
theorem HGfe8_5_ok (gg port : Int) (hg0 : 0 ≤ gg) (hg1 : gg ≤ 4294967295) (hp0 : -9223372036854775808 ≤ port) (hp1 : port ≤ 9223372036854775807) (hc : HGfK8 gg port) : @EntOK (env (HGfv8 gg port)) Tryz.prog HGfe8_5 := by
  letI : Env := (env (HGfv8 gg port))
  obtain ⟨c0, c1, c2, c3, c4, c5, c6, c7, c8, c9, c10, c11, c12, c13, c14, c15, _⟩ := hc
  exact entCmp (k := .i64) (a := port) (b := 65535) rfl rfl (by show some (decide ((port : Int) ≤ 65535)) = some true; rw [decide_eq_true (by first | omega | (simp only [sumVal, oct.sumF, oct.F, oct.ws]; omega) | (simp only [sumVal, oct.sumF, oct.F, oct.ws] at *; omega))])
theorem HGfe8_6_ok (gg port : Int) (hg0 : 0 ≤ gg) (hg1 : gg ≤ 4294967295) (hp0 : -9223372036854775808 ≤ port) (hp1 : port ≤ 9223372036854775807) (hc : HGfK8 gg port) : @EntOK (env (HGfv8 gg port)) Tryz.prog HGfe8_6 := by
  letI : Env := (env (HGfv8 gg port))
  obtain ⟨c0, c1, c2, c3, c4, c5, c6, c7, c8, c9, c10, c11, c12, c13, c14, c15, _⟩ := hc
  exact entCmp (k := .i64) (a := port) (b := 0) rfl rfl (by show some (decide ((port : Int) ≥ 0)) = some true; rw [decide_eq_true (by first | omega | (simp only [sumVal, oct.sumF, oct.F, oct.ws]; omega) | (simp only [sumVal, oct.sumF, oct.F, oct.ws] at *; omega))])
theorem HGfe8_7_ok (gg port : Int) (hg0 : 0 ≤ gg) (hg1 : gg ≤ 4294967295) (hp0 : -9223372036854775808 ≤ port) (hp1 : port ≤ 9223372036854775807) (hc : HGfK8 gg port) : @EntOK (env (HGfv8 gg port)) Tryz.prog HGfe8_7 := by
  letI : Env := (env (HGfv8 gg port))
  obtain ⟨c0, c1, c2, c3, c4, c5, c6, c7, c8, c9, c10, c11, c12, c13, c14, c15, _⟩ := hc
  exact entConvV (k := .u64) (l := .i64) (a := port) (c := (port % 18446744073709551616)) rfl rfl (by rw [IntKind.wrap_u64])
theorem HGfe8_8_ok (gg port : Int) (hg0 : 0 ≤ gg) (hg1 : gg ≤ 4294967295) (hp0 : -9223372036854775808 ≤ port) (hp1 : port ≤ 9223372036854775807) (hc : HGfK8 gg port) : @EntOK (env (HGfv8 gg port)) Tryz.prog HGfe8_8 := by
  letI : Env := (env (HGfv8 gg port))
  obtain ⟨c0, c1, c2, c3, c4, c5, c6, c7, c8, c9, c10, c11, c12, c13, c14, c15, _⟩ := hc
  exact entShrV (k := .u64) (l := .u64) (a := (port % 18446744073709551616)) (c := ((port % 18446744073709551616) / 256)) (s := 8) rfl rfl rfl (by decide) (by exact fdiv_nat _ 256)
theorem HGfe8_9_ok (gg port : Int) (hg0 : 0 ≤ gg) (hg1 : gg ≤ 4294967295) (hp0 : -9223372036854775808 ≤ port) (hp1 : port ≤ 9223372036854775807) (hc : HGfK8 gg port) : @EntOK (env (HGfv8 gg port)) Tryz.prog HGfe8_9 := by
  letI : Env := (env (HGfv8 gg port))
  obtain ⟨c0, c1, c2, c3, c4, c5, c6, c7, c8, c9, c10, c11, c12, c13, c14, c15, _⟩ := hc
  exact entConvV (k := .u8) (l := .u64) (a := ((port % 18446744073709551616) / 256)) (c := (((port % 18446744073709551616) / 256) % 256)) rfl rfl (by rw [IntKind.wrap_u8])
theorem HGfe8_10_ok (gg port : Int) (hg0 : 0 ≤ gg) (hg1 : gg ≤ 4294967295) (hp0 : -9223372036854775808 ≤ port) (hp1 : port ≤ 9223372036854775807) (hc : HGfK8 gg port) : @EntOK (env (HGfv8 gg port)) Tryz.prog HGfe8_10 := by
  letI : Env := (env (HGfv8 gg port))
  obtain ⟨c0, c1, c2, c3, c4, c5, c6, c7, c8, c9, c10, c11, c12, c13, c14, c15, _⟩ := hc
  exact entConvV (k := .u8) (l := .u64) (a := (port % 18446744073709551616)) (c := ((port % 18446744073709551616) % 256)) rfl rfl (by rw [IntKind.wrap_u8])
theorem HGfe8_11_ok (gg port : Int) (hg0 : 0 ≤ gg) (hg1 : gg ≤ 4294967295) (hp0 : -9223372036854775808 ≤ port) (hp1 : port ≤ 9223372036854775807) (hc : HGfK8 gg port) : @EntOK (env (HGfv8 gg port)) Tryz.prog HGfe8_11 := by
  letI : Env := (env (HGfv8 gg port))
  obtain ⟨c0, c1, c2, c3, c4, c5, c6, c7, c8, c9, c10, c11, c12, c13, c14, c15, _⟩ := hc
  exact entShrV (k := .u32) (l := .u64) (a := gg) (c := (gg / 16777216)) (s := 24) rfl rfl rfl (by decide) (by exact fdiv_nat _ 16777216)
theorem HGfe8_12_ok (gg port : Int) (hg0 : 0 ≤ gg) (hg1 : gg ≤ 4294967295) (hp0 : -9223372036854775808 ≤ port) (hp1 : port ≤ 9223372036854775807) (hc : HGfK8 gg port) : @EntOK (env (HGfv8 gg port)) Tryz.prog HGfe8_12 := by
  letI : Env := (env (HGfv8 gg port))
  obtain ⟨c0, c1, c2, c3, c4, c5, c6, c7, c8, c9, c10, c11, c12, c13, c14, c15, _⟩ := hc
  exact entConvV (k := .u8) (l := .u32) (a := (gg / 16777216)) (c := (gg / 16777216)) rfl rfl (by rw [IntWalk.u8_in _ (by first | omega | (simp only [sumVal, oct.sumF, oct.F, oct.ws]; omega) | (simp only [sumVal, oct.sumF, oct.F, oct.ws] at *; omega))])
theorem HGfe8_13_ok (gg port : Int) (hg0 : 0 ≤ gg) (hg1 : gg ≤ 4294967295) (hp0 : -9223372036854775808 ≤ port) (hp1 : port ≤ 9223372036854775807) (hc : HGfK8 gg port) : @EntOK (env (HGfv8 gg port)) Tryz.prog HGfe8_13 := by
  letI : Env := (env (HGfv8 gg port))
  obtain ⟨c0, c1, c2, c3, c4, c5, c6, c7, c8, c9, c10, c11, c12, c13, c14, c15, _⟩ := hc
  exact entShrV (k := .u32) (l := .u64) (a := gg) (c := (gg / 65536)) (s := 16) rfl rfl rfl (by decide) (by exact fdiv_nat _ 65536)
theorem HGfe8_14_ok (gg port : Int) (hg0 : 0 ≤ gg) (hg1 : gg ≤ 4294967295) (hp0 : -9223372036854775808 ≤ port) (hp1 : port ≤ 9223372036854775807) (hc : HGfK8 gg port) : @EntOK (env (HGfv8 gg port)) Tryz.prog HGfe8_14 := by
  letI : Env := (env (HGfv8 gg port))
  obtain ⟨c0, c1, c2, c3, c4, c5, c6, c7, c8, c9, c10, c11, c12, c13, c14, c15, _⟩ := hc
  exact entConvV (k := .u8) (l := .u32) (a := (gg / 65536)) (c := ((gg / 65536) % 256)) rfl rfl (by rw [IntKind.wrap_u8])
theorem HGfe8_15_ok (gg port : Int) (hg0 : 0 ≤ gg) (hg1 : gg ≤ 4294967295) (hp0 : -9223372036854775808 ≤ port) (hp1 : port ≤ 9223372036854775807) (hc : HGfK8 gg port) : @EntOK (env (HGfv8 gg port)) Tryz.prog HGfe8_15 := by
  letI : Env := (env (HGfv8 gg port))
  obtain ⟨c0, c1, c2, c3, c4, c5, c6, c7, c8, c9, c10, c11, c12, c13, c14, c15, _⟩ := hc
  exact entShrV (k := .u32) (l := .u64) (a := gg) (c := (gg / 256)) (s := 8) rfl rfl rfl (by decide) (by exact fdiv_nat _ 256)
theorem HGfe8_16_ok (gg port : Int) (hg0 : 0 ≤ gg) (hg1 : gg ≤ 4294967295) (hp0 : -9223372036854775808 ≤ port) (hp1 : port ≤ 9223372036854775807) (hc : HGfK8 gg port) : @EntOK (env (HGfv8 gg port)) Tryz.prog HGfe8_16 := by
  letI : Env := (env (HGfv8 gg port))
  obtain ⟨c0, c1, c2, c3, c4, c5, c6, c7, c8, c9, c10, c11, c12, c13, c14, c15, _⟩ := hc
  exact entConvV (k := .u8) (l := .u32) (a := (gg / 256)) (c := ((gg / 256) % 256)) rfl rfl (by rw [IntKind.wrap_u8])
theorem HGfe8_17_ok (gg port : Int) (hg0 : 0 ≤ gg) (hg1 : gg ≤ 4294967295) (hp0 : -9223372036854775808 ≤ port) (hp1 : port ≤ 9223372036854775807) (hc : HGfK8 gg port) : @EntOK (env (HGfv8 gg port)) Tryz.prog HGfe8_17 := by
  letI : Env := (env (HGfv8 gg port))
  obtain ⟨c0, c1, c2, c3, c4, c5, c6, c7, c8, c9, c10, c11, c12, c13, c14, c15, _⟩ := hc
  exact entConvV (k := .u8) (l := .u32) (a := gg) (c := (gg % 256)) rfl rfl (by rw [IntKind.wrap_u8])
theorem HGfe8_18_ok (gg port : Int) (hg0 : 0 ≤ gg) (hg1 : gg ≤ 4294967295) (hp0 : -9223372036854775808 ≤ port) (hp1 : port ≤ 9223372036854775807) (hc : HGfK8 gg port) : @EntOK (env (HGfv8 gg port)) Tryz.prog HGfe8_18 := by
  letI : Env := (env (HGfv8 gg port))
  obtain ⟨c0, c1, c2, c3, c4, c5, c6, c7, c8, c9, c10, c11, c12, c13, c14, c15, _⟩ := hc
  have bd0 := sumVal_bd true [10, 0, 0, 1, (gg / 16777216), ((gg / 65536) % 256), ((gg / 256) % 256), (gg % 256), 0, 17, 0, 9, 0, 5, (((port % 18446744073709551616) / 256) % 256), ((port % 18446744073709551616) % 256), 0, 9, 0, 0, 120] (by intro b hb; simp only [List.mem_cons, List.not_mem_nil, or_false] at hb; rcases hb with rfl | rfl | rfl | rfl | rfl | rfl | rfl | rfl | rfl | rfl | rfl | rfl | rfl | rfl | rfl | rfl | rfl | rfl | rfl | rfl | rfl <;> omega)
  exact entCmp (k := .i64) (a := (sumVal true [10, 0, 0, 1, (gg / 16777216), ((gg / 65536) % 256), ((gg / 256) % 256), (gg % 256), 0, 17, 0, 9, 0, 5, (((port % 18446744073709551616) / 256) % 256), ((port % 18446744073709551616) % 256), 0, 9, 0, 0, 120])) (b := 0) rfl rfl (by show some (((sumVal true [10, 0, 0, 1, (gg / 16777216), ((gg / 65536) % 256), ((gg / 256) % 256), (gg % 256), 0, 17, 0, 9, 0, 5, (((port % 18446744073709551616) / 256) % 256), ((port % 18446744073709551616) % 256), 0, 9, 0, 0, 120]) : Int) == 0) = some false; rw [beq_eq_false_iff_ne.2 (by first | omega | (simp only [sumVal, oct.sumF, oct.F, oct.ws]; omega) | (simp only [sumVal, oct.sumF, oct.F, oct.ws] at *; omega))])
theorem HGfe8_19_ok (gg port : Int) (hg0 : 0 ≤ gg) (hg1 : gg ≤ 4294967295) (hp0 : -9223372036854775808 ≤ port) (hp1 : port ≤ 9223372036854775807) (hc : HGfK8 gg port) : @EntOK (env (HGfv8 gg port)) Tryz.prog HGfe8_19 := by
  letI : Env := (env (HGfv8 gg port))
  obtain ⟨c0, c1, c2, c3, c4, c5, c6, c7, c8, c9, c10, c11, c12, c13, c14, c15, _⟩ := hc
  have bd0 := sumVal_bd true [10, 0, 0, 1, (gg / 16777216), ((gg / 65536) % 256), ((gg / 256) % 256), (gg % 256), 0, 17, 0, 9, 0, 5, (((port % 18446744073709551616) / 256) % 256), ((port % 18446744073709551616) % 256), 0, 9, 0, 0, 120] (by intro b hb; simp only [List.mem_cons, List.not_mem_nil, or_false] at hb; rcases hb with rfl | rfl | rfl | rfl | rfl | rfl | rfl | rfl | rfl | rfl | rfl | rfl | rfl | rfl | rfl | rfl | rfl | rfl | rfl | rfl | rfl <;> omega)
  exact entConvV (k := .u64) (l := .i64) (a := (sumVal true [10, 0, 0, 1, (gg / 16777216), ((gg / 65536) % 256), ((gg / 256) % 256), (gg % 256), 0, 17, 0, 9, 0, 5, (((port % 18446744073709551616) / 256) % 256), ((port % 18446744073709551616) % 256), 0, 9, 0, 0, 120])) (c := (sumVal true [10, 0, 0, 1, (gg / 16777216), ((gg / 65536) % 256), ((gg / 256) % 256), (gg % 256), 0, 17, 0, 9, 0, 5, (((port % 18446744073709551616) / 256) % 256), ((port % 18446744073709551616) % 256), 0, 9, 0, 0, 120])) rfl rfl (by rw [IntWalk.u64_in _ (by first | omega | (simp only [sumVal, oct.sumF, oct.F, oct.ws]; omega) | (simp only [sumVal, oct.sumF, oct.F, oct.ws] at *; omega))])
theorem HGfe8_20_ok (gg port : Int) (hg0 : 0 ≤ gg) (hg1 : gg ≤ 4294967295) (hp0 : -9223372036854775808 ≤ port) (hp1 : port ≤ 9223372036854775807) (hc : HGfK8 gg port) : @EntOK (env (HGfv8 gg port)) Tryz.prog HGfe8_20 := by
  letI : Env := (env (HGfv8 gg port))
  obtain ⟨c0, c1, c2, c3, c4, c5, c6, c7, c8, c9, c10, c11, c12, c13, c14, c15, _⟩ := hc
  have bd0 := sumVal_bd true [10, 0, 0, 1, (gg / 16777216), ((gg / 65536) % 256), ((gg / 256) % 256), (gg % 256), 0, 17, 0, 9, 0, 5, (((port % 18446744073709551616) / 256) % 256), ((port % 18446744073709551616) % 256), 0, 9, 0, 0, 120] (by intro b hb; simp only [List.mem_cons, List.not_mem_nil, or_false] at hb; rcases hb with rfl | rfl | rfl | rfl | rfl | rfl | rfl | rfl | rfl | rfl | rfl | rfl | rfl | rfl | rfl | rfl | rfl | rfl | rfl | rfl | rfl <;> omega)
  exact entShrV (k := .u64) (l := .u64) (a := (sumVal true [10, 0, 0, 1, (gg / 16777216), ((gg / 65536) % 256), ((gg / 256) % 256), (gg % 256), 0, 17, 0, 9, 0, 5, (((port % 18446744073709551616) / 256) % 256), ((port % 18446744073709551616) % 256), 0, 9, 0, 0, 120])) (c := ((sumVal true [10, 0, 0, 1, (gg / 16777216), ((gg / 65536) % 256), ((gg / 256) % 256), (gg % 256), 0, 17, 0, 9, 0, 5, (((port % 18446744073709551616) / 256) % 256), ((port % 18446744073709551616) % 256), 0, 9, 0, 0, 120]) / 256)) (s := 8) rfl rfl rfl (by decide) (by exact fdiv_nat _ 256)
theorem HGfe8_21_ok (gg port : Int) (hg0 : 0 ≤ gg) (hg1 : gg ≤ 4294967295) (hp0 : -9223372036854775808 ≤ port) (hp1 : port ≤ 9223372036854775807) (hc : HGfK8 gg port) : @EntOK (env (HGfv8 gg port)) Tryz.prog HGfe8_21 := by
  letI : Env := (env (HGfv8 gg port))
  obtain ⟨c0, c1, c2, c3, c4, c5, c6, c7, c8, c9, c10, c11, c12, c13, c14, c15, _⟩ := hc
  have bd0 := sumVal_bd true [10, 0, 0, 1, (gg / 16777216), ((gg / 65536) % 256), ((gg / 256) % 256), (gg % 256), 0, 17, 0, 9, 0, 5, (((port % 18446744073709551616) / 256) % 256), ((port % 18446744073709551616) % 256), 0, 9, 0, 0, 120] (by intro b hb; simp only [List.mem_cons, List.not_mem_nil, or_false] at hb; rcases hb with rfl | rfl | rfl | rfl | rfl | rfl | rfl | rfl | rfl | rfl | rfl | rfl | rfl | rfl | rfl | rfl | rfl | rfl | rfl | rfl | rfl <;> omega)
  exact entConvV (k := .u8) (l := .u64) (a := ((sumVal true [10, 0, 0, 1, (gg / 16777216), ((gg / 65536) % 256), ((gg / 256) % 256), (gg % 256), 0, 17, 0, 9, 0, 5, (((port % 18446744073709551616) / 256) % 256), ((port % 18446744073709551616) % 256), 0, 9, 0, 0, 120]) / 256)) (c := ((sumVal true [10, 0, 0, 1, (gg / 16777216), ((gg / 65536) % 256), ((gg / 256) % 256), (gg % 256), 0, 17, 0, 9, 0, 5, (((port % 18446744073709551616) / 256) % 256), ((port % 18446744073709551616) % 256), 0, 9, 0, 0, 120]) / 256)) rfl rfl (by rw [IntWalk.u8_in _ (by first | omega | (simp only [sumVal, oct.sumF, oct.F, oct.ws]; omega) | (simp only [sumVal, oct.sumF, oct.F, oct.ws] at *; omega))])
theorem HGfe8_22_ok (gg port : Int) (hg0 : 0 ≤ gg) (hg1 : gg ≤ 4294967295) (hp0 : -9223372036854775808 ≤ port) (hp1 : port ≤ 9223372036854775807) (hc : HGfK8 gg port) : @EntOK (env (HGfv8 gg port)) Tryz.prog HGfe8_22 := by
  letI : Env := (env (HGfv8 gg port))
  obtain ⟨c0, c1, c2, c3, c4, c5, c6, c7, c8, c9, c10, c11, c12, c13, c14, c15, _⟩ := hc
  have bd0 := sumVal_bd true [10, 0, 0, 1, (gg / 16777216), ((gg / 65536) % 256), ((gg / 256) % 256), (gg % 256), 0, 17, 0, 9, 0, 5, (((port % 18446744073709551616) / 256) % 256), ((port % 18446744073709551616) % 256), 0, 9, 0, 0, 120] (by intro b hb; simp only [List.mem_cons, List.not_mem_nil, or_false] at hb; rcases hb with rfl | rfl | rfl | rfl | rfl | rfl | rfl | rfl | rfl | rfl | rfl | rfl | rfl | rfl | rfl | rfl | rfl | rfl | rfl | rfl | rfl <;> omega)
  exact entConvV (k := .u8) (l := .u64) (a := (sumVal true [10, 0, 0, 1, (gg / 16777216), ((gg / 65536) % 256), ((gg / 256) % 256), (gg % 256), 0, 17, 0, 9, 0, 5, (((port % 18446744073709551616) / 256) % 256), ((port % 18446744073709551616) % 256), 0, 9, 0, 0, 120])) (c := ((sumVal true [10, 0, 0, 1, (gg / 16777216), ((gg / 65536) % 256), ((gg / 256) % 256), (gg % 256), 0, 17, 0, 9, 0, 5, (((port % 18446744073709551616) / 256) % 256), ((port % 18446744073709551616) % 256), 0, 9, 0, 0, 120]) % 256)) rfl rfl (by rw [IntKind.wrap_u8])
theorem HGfe8_23_ok (gg port : Int) (hg0 : 0 ≤ gg) (hg1 : gg ≤ 4294967295) (hp0 : -9223372036854775808 ≤ port) (hp1 : port ≤ 9223372036854775807) (hc : HGfK8 gg port) : @EntOK (env (HGfv8 gg port)) Tryz.prog HGfe8_23 := by
  letI : Env := (env (HGfv8 gg port))
  obtain ⟨c0, c1, c2, c3, c4, c5, c6, c7, c8, c9, c10, c11, c12, c13, c14, c15, _⟩ := hc
  have bd1 := sumVal_bd true [69, 0, 0, 29, 0, 1, 0, 0, 64, 17, 0, 0, 10, 0, 0, 1, (gg / 16777216), ((gg / 65536) % 256), ((gg / 256) % 256), (gg % 256)] (by intro b hb; simp only [List.mem_cons, List.not_mem_nil, or_false] at hb; rcases hb with rfl | rfl | rfl | rfl | rfl | rfl | rfl | rfl | rfl | rfl | rfl | rfl | rfl | rfl | rfl | rfl | rfl | rfl | rfl | rfl <;> omega)
  exact entConvV (k := .u64) (l := .i64) (a := (sumVal true [69, 0, 0, 29, 0, 1, 0, 0, 64, 17, 0, 0, 10, 0, 0, 1, (gg / 16777216), ((gg / 65536) % 256), ((gg / 256) % 256), (gg % 256)])) (c := (sumVal true [69, 0, 0, 29, 0, 1, 0, 0, 64, 17, 0, 0, 10, 0, 0, 1, (gg / 16777216), ((gg / 65536) % 256), ((gg / 256) % 256), (gg % 256)])) rfl rfl (by rw [IntWalk.u64_in _ (by first | omega | (simp only [sumVal, oct.sumF, oct.F, oct.ws]; omega) | (simp only [sumVal, oct.sumF, oct.F, oct.ws] at *; omega))])
theorem HGfe8_24_ok (gg port : Int) (hg0 : 0 ≤ gg) (hg1 : gg ≤ 4294967295) (hp0 : -9223372036854775808 ≤ port) (hp1 : port ≤ 9223372036854775807) (hc : HGfK8 gg port) : @EntOK (env (HGfv8 gg port)) Tryz.prog HGfe8_24 := by
  letI : Env := (env (HGfv8 gg port))
  obtain ⟨c0, c1, c2, c3, c4, c5, c6, c7, c8, c9, c10, c11, c12, c13, c14, c15, _⟩ := hc
  have bd1 := sumVal_bd true [69, 0, 0, 29, 0, 1, 0, 0, 64, 17, 0, 0, 10, 0, 0, 1, (gg / 16777216), ((gg / 65536) % 256), ((gg / 256) % 256), (gg % 256)] (by intro b hb; simp only [List.mem_cons, List.not_mem_nil, or_false] at hb; rcases hb with rfl | rfl | rfl | rfl | rfl | rfl | rfl | rfl | rfl | rfl | rfl | rfl | rfl | rfl | rfl | rfl | rfl | rfl | rfl | rfl <;> omega)
  exact entShrV (k := .u64) (l := .u64) (a := (sumVal true [69, 0, 0, 29, 0, 1, 0, 0, 64, 17, 0, 0, 10, 0, 0, 1, (gg / 16777216), ((gg / 65536) % 256), ((gg / 256) % 256), (gg % 256)])) (c := ((sumVal true [69, 0, 0, 29, 0, 1, 0, 0, 64, 17, 0, 0, 10, 0, 0, 1, (gg / 16777216), ((gg / 65536) % 256), ((gg / 256) % 256), (gg % 256)]) / 256)) (s := 8) rfl rfl rfl (by decide) (by exact fdiv_nat _ 256)
theorem HGfe8_25_ok (gg port : Int) (hg0 : 0 ≤ gg) (hg1 : gg ≤ 4294967295) (hp0 : -9223372036854775808 ≤ port) (hp1 : port ≤ 9223372036854775807) (hc : HGfK8 gg port) : @EntOK (env (HGfv8 gg port)) Tryz.prog HGfe8_25 := by
  letI : Env := (env (HGfv8 gg port))
  obtain ⟨c0, c1, c2, c3, c4, c5, c6, c7, c8, c9, c10, c11, c12, c13, c14, c15, _⟩ := hc
  have bd1 := sumVal_bd true [69, 0, 0, 29, 0, 1, 0, 0, 64, 17, 0, 0, 10, 0, 0, 1, (gg / 16777216), ((gg / 65536) % 256), ((gg / 256) % 256), (gg % 256)] (by intro b hb; simp only [List.mem_cons, List.not_mem_nil, or_false] at hb; rcases hb with rfl | rfl | rfl | rfl | rfl | rfl | rfl | rfl | rfl | rfl | rfl | rfl | rfl | rfl | rfl | rfl | rfl | rfl | rfl | rfl <;> omega)
  exact entConvV (k := .u8) (l := .u64) (a := ((sumVal true [69, 0, 0, 29, 0, 1, 0, 0, 64, 17, 0, 0, 10, 0, 0, 1, (gg / 16777216), ((gg / 65536) % 256), ((gg / 256) % 256), (gg % 256)]) / 256)) (c := ((sumVal true [69, 0, 0, 29, 0, 1, 0, 0, 64, 17, 0, 0, 10, 0, 0, 1, (gg / 16777216), ((gg / 65536) % 256), ((gg / 256) % 256), (gg % 256)]) / 256)) rfl rfl (by rw [IntWalk.u8_in _ (by first | omega | (simp only [sumVal, oct.sumF, oct.F, oct.ws]; omega) | (simp only [sumVal, oct.sumF, oct.F, oct.ws] at *; omega))])
theorem HGfe8_26_ok (gg port : Int) (hg0 : 0 ≤ gg) (hg1 : gg ≤ 4294967295) (hp0 : -9223372036854775808 ≤ port) (hp1 : port ≤ 9223372036854775807) (hc : HGfK8 gg port) : @EntOK (env (HGfv8 gg port)) Tryz.prog HGfe8_26 := by
  letI : Env := (env (HGfv8 gg port))
  obtain ⟨c0, c1, c2, c3, c4, c5, c6, c7, c8, c9, c10, c11, c12, c13, c14, c15, _⟩ := hc
  have bd1 := sumVal_bd true [69, 0, 0, 29, 0, 1, 0, 0, 64, 17, 0, 0, 10, 0, 0, 1, (gg / 16777216), ((gg / 65536) % 256), ((gg / 256) % 256), (gg % 256)] (by intro b hb; simp only [List.mem_cons, List.not_mem_nil, or_false] at hb; rcases hb with rfl | rfl | rfl | rfl | rfl | rfl | rfl | rfl | rfl | rfl | rfl | rfl | rfl | rfl | rfl | rfl | rfl | rfl | rfl | rfl <;> omega)
  exact entConvV (k := .u8) (l := .u64) (a := (sumVal true [69, 0, 0, 29, 0, 1, 0, 0, 64, 17, 0, 0, 10, 0, 0, 1, (gg / 16777216), ((gg / 65536) % 256), ((gg / 256) % 256), (gg % 256)])) (c := ((sumVal true [69, 0, 0, 29, 0, 1, 0, 0, 64, 17, 0, 0, 10, 0, 0, 1, (gg / 16777216), ((gg / 65536) % 256), ((gg / 256) % 256), (gg % 256)]) % 256)) rfl rfl (by rw [IntKind.wrap_u8])
theorem HGfe8_27_ok (gg port : Int) (hg0 : 0 ≤ gg) (hg1 : gg ≤ 4294967295) (hp0 : -9223372036854775808 ≤ port) (hp1 : port ≤ 9223372036854775807) (hc : HGfK8 gg port) : @EntOK (env (HGfv8 gg port)) Tryz.prog HGfe8_27 := by
  letI : Env := (env (HGfv8 gg port))
  obtain ⟨c0, c1, c2, c3, c4, c5, c6, c7, c8, c9, c10, c11, c12, c13, c14, c15, _⟩ := hc
  exact entCmp (k := .u32) (a := gg) (b := 167772161) rfl rfl (by show some ((gg : Int) == 167772161) = some false; rw [beq_eq_false_iff_ne.2 (by first | omega | (simp only [sumVal, oct.sumF, oct.F, oct.ws]; omega) | (simp only [sumVal, oct.sumF, oct.F, oct.ws] at *; omega))])
theorem HGfe8_28_ok (gg port : Int) (hg0 : 0 ≤ gg) (hg1 : gg ≤ 4294967295) (hp0 : -9223372036854775808 ≤ port) (hp1 : port ≤ 9223372036854775807) (hc : HGfK8 gg port) : @EntOK (env (HGfv8 gg port)) Tryz.prog HGfe8_28 := by
  letI : Env := (env (HGfv8 gg port))
  obtain ⟨c0, c1, c2, c3, c4, c5, c6, c7, c8, c9, c10, c11, c12, c13, c14, c15, _⟩ := hc
  exact entCmp (k := .u32) (a := gg) (b := 4294967295) rfl rfl (by show some ((gg : Int) == 4294967295) = some false; rw [beq_eq_false_iff_ne.2 (by first | omega | (simp only [sumVal, oct.sumF, oct.F, oct.ws]; omega) | (simp only [sumVal, oct.sumF, oct.F, oct.ws] at *; omega))])
theorem HGfe8_29_ok (gg port : Int) (hg0 : 0 ≤ gg) (hg1 : gg ≤ 4294967295) (hp0 : -9223372036854775808 ≤ port) (hp1 : port ≤ 9223372036854775807) (hc : HGfK8 gg port) : @EntOK (env (HGfv8 gg port)) Tryz.prog HGfe8_29 := by
  letI : Env := (env (HGfv8 gg port))
  obtain ⟨c0, c1, c2, c3, c4, c5, c6, c7, c8, c9, c10, c11, c12, c13, c14, c15, _⟩ := hc
  exact entCmp (k := .u32) (a := gg) (b := 167772415) rfl rfl (by show some ((gg : Int) == 167772415) = some false; rw [beq_eq_false_iff_ne.2 (by first | omega | (simp only [sumVal, oct.sumF, oct.F, oct.ws]; omega) | (simp only [sumVal, oct.sumF, oct.F, oct.ws] at *; omega))])
theorem HGfe8_30_ok (gg port : Int) (hg0 : 0 ≤ gg) (hg1 : gg ≤ 4294967295) (hp0 : -9223372036854775808 ≤ port) (hp1 : port ≤ 9223372036854775807) (hc : HGfK8 gg port) : @EntOK (env (HGfv8 gg port)) Tryz.prog HGfe8_30 := by
  letI : Env := (env (HGfv8 gg port))
  obtain ⟨c0, c1, c2, c3, c4, c5, c6, c7, c8, c9, c10, c11, c12, c13, c14, c15, _⟩ := hc
  exact entCmp (k := .u32) (a := gg) (b := 3758096384) rfl rfl (by show some (decide ((gg : Int) ≥ 3758096384)) = some true; rw [decide_eq_true (by first | omega | (simp only [sumVal, oct.sumF, oct.F, oct.ws]; omega) | (simp only [sumVal, oct.sumF, oct.F, oct.ws] at *; omega))])
theorem HGfe8_31_ok (gg port : Int) (hg0 : 0 ≤ gg) (hg1 : gg ≤ 4294967295) (hp0 : -9223372036854775808 ≤ port) (hp1 : port ≤ 9223372036854775807) (hc : HGfK8 gg port) : @EntOK (env (HGfv8 gg port)) Tryz.prog HGfe8_31 := by
  letI : Env := (env (HGfv8 gg port))
  obtain ⟨c0, c1, c2, c3, c4, c5, c6, c7, c8, c9, c10, c11, c12, c13, c14, c15, _⟩ := hc
  exact entCmp (k := .u32) (a := gg) (b := 4026531840) rfl rfl (by show some (decide ((gg : Int) < 4026531840)) = some true; rw [decide_eq_true (by first | omega | (simp only [sumVal, oct.sumF, oct.F, oct.ws]; omega) | (simp only [sumVal, oct.sumF, oct.F, oct.ws] at *; omega))])
theorem HGfe8_32_ok (gg port : Int) (hg0 : 0 ≤ gg) (hg1 : gg ≤ 4294967295) (hp0 : -9223372036854775808 ≤ port) (hp1 : port ≤ 9223372036854775807) (hc : HGfK8 gg port) : @EntOK (env (HGfv8 gg port)) Tryz.prog HGfe8_32 := by
  letI : Env := (env (HGfv8 gg port))
  obtain ⟨c0, c1, c2, c3, c4, c5, c6, c7, c8, c9, c10, c11, c12, c13, c14, c15, _⟩ := hc
  exact entAnd (k := .u8) (a := ((gg / 65536) % 256)) (b := 127) rfl rfl rfl
theorem HGfe8_33_ok (gg port : Int) (hg0 : 0 ≤ gg) (hg1 : gg ≤ 4294967295) (hp0 : -9223372036854775808 ≤ port) (hp1 : port ≤ 9223372036854775807) (hc : HGfK8 gg port) : @EntOK (env (HGfv8 gg port)) Tryz.prog HGfe8_33 := by
  letI : Env := (env (HGfv8 gg port))
  obtain ⟨c0, c1, c2, c3, c4, c5, c6, c7, c8, c9, c10, c11, c12, c13, c14, c15, _⟩ := hc
  exact ⟨by intro v hv; simp only [List.mem_cons, List.not_mem_nil, or_false] at hv; rcases hv with rfl | rfl | rfl | rfl | rfl | rfl <;> first | exact .inl ⟨_, _, rfl⟩ | exact .inr ⟨_, rfl⟩, by intro v hv; simp only [List.mem_cons, List.not_mem_nil, or_false] at hv; rcases hv with rfl | rfl | rfl | rfl | rfl | rfl <;> first | exact .inl ⟨_, _, rfl⟩ | exact .inr ⟨_, rfl⟩, by intro a1 a2 w; have e0 : ¬ (1 = 2) := (by first | omega | (simp only [sumVal, oct.sumF, oct.F, oct.ws]; omega) | (simp only [sumVal, oct.sumF, oct.F, oct.ws] at *; omega)); (refine eqMACd _ _ _ _ _ _ _ _ _ _ _ _ _ ?_ a1 a2 w; first | exact decide_eq_true (by omega) | exact decide_eq_false (by omega))⟩
theorem HGfe8_34_ok (gg port : Int) (hg0 : 0 ≤ gg) (hg1 : gg ≤ 4294967295) (hp0 : -9223372036854775808 ≤ port) (hp1 : port ≤ 9223372036854775807) (hc : HGfK8 gg port) : @EntOK (env (HGfv8 gg port)) Tryz.prog HGfe8_34 := by
  letI : Env := (env (HGfv8 gg port))
  obtain ⟨c0, c1, c2, c3, c4, c5, c6, c7, c8, c9, c10, c11, c12, c13, c14, c15, _⟩ := hc
  exact ⟨by intro v hv; simp only [List.mem_cons, List.not_mem_nil, or_false] at hv; rcases hv with rfl | rfl | rfl | rfl | rfl | rfl <;> first | exact .inl ⟨_, _, rfl⟩ | exact .inr ⟨_, rfl⟩, by intro v hv; simp only [List.mem_cons, List.not_mem_nil, or_false] at hv; rcases hv with rfl | rfl | rfl | rfl | rfl | rfl <;> first | exact .inl ⟨_, _, rfl⟩ | exact .inr ⟨_, rfl⟩, by intro a1 a2 w; have e0 : ¬ (1 = 255) := (by first | omega | (simp only [sumVal, oct.sumF, oct.F, oct.ws]; omega) | (simp only [sumVal, oct.sumF, oct.F, oct.ws] at *; omega)); (refine eqMACd _ _ _ _ _ _ _ _ _ _ _ _ _ ?_ a1 a2 w; first | exact decide_eq_true (by omega) | exact decide_eq_false (by omega))⟩
theorem HGfe8_35_ok (gg port : Int) (hg0 : 0 ≤ gg) (hg1 : gg ≤ 4294967295) (hp0 : -9223372036854775808 ≤ port) (hp1 : port ≤ 9223372036854775807) (hc : HGfK8 gg port) : @EntOK (env (HGfv8 gg port)) Tryz.prog HGfe8_35 := by
  letI : Env := (env (HGfv8 gg port))
  obtain ⟨c0, c1, c2, c3, c4, c5, c6, c7, c8, c9, c10, c11, c12, c13, c14, c15, _⟩ := hc
  exact ⟨by intro v hv; simp only [List.mem_cons, List.not_mem_nil, or_false] at hv; rcases hv with rfl | rfl | rfl | rfl | rfl | rfl <;> first | exact .inl ⟨_, _, rfl⟩ | exact .inr ⟨_, rfl⟩, by intro v hv; simp only [List.mem_cons, List.not_mem_nil, or_false] at hv; rcases hv with rfl | rfl | rfl | rfl | rfl | rfl <;> first | exact .inl ⟨_, _, rfl⟩ | exact .inr ⟨_, rfl⟩, by intro a1 a2 w; have e0 : (band .u8 ((gg / 65536) % 256) 127) = 0 := (by first | omega | (simp only [sumVal, oct.sumF, oct.F, oct.ws]; omega) | (simp only [sumVal, oct.sumF, oct.F, oct.ws] at *; omega)); have e1 : ((gg / 256) % 256) = 0 := (by first | omega | (simp only [sumVal, oct.sumF, oct.F, oct.ws]; omega) | (simp only [sumVal, oct.sumF, oct.F, oct.ws] at *; omega)); have e2 : ¬ ((gg % 256) = 1) := (by first | omega | (simp only [sumVal, oct.sumF, oct.F, oct.ws]; omega) | (simp only [sumVal, oct.sumF, oct.F, oct.ws] at *; omega)); (refine eqMACd _ _ _ _ _ _ _ _ _ _ _ _ _ ?_ a1 a2 w; first | exact decide_eq_true (by omega) | exact decide_eq_false (by omega))⟩
theorem HGfp8_0_ok (gg port : Int) (hg0 : 0 ≤ gg) (hg1 : gg ≤ 4294967295) (hp0 : -9223372036854775808 ≤ port) (hp1 : port ≤ 9223372036854775807) (hc : HGfK8 gg port) : @PEntOK (env (HGfv8 gg port)) HGfp8_0 := by
  letI : Env := (env (HGfv8 gg port))
  obtain ⟨c0, c1, c2, c3, c4, c5, c6, c7, c8, c9, c10, c11, c12, c13, c14, c15, _⟩ := hc
  exact ⟨[10, 0, 0, 1, (gg / 16777216), ((gg / 65536) % 256), ((gg / 256) % 256), (gg % 256), 0, 17, 0, 9, 0, 5, (((port % 18446744073709551616) / 256) % 256), ((port % 18446744073709551616) % 256), 0, 9, 0, 0, 120], rfl, by intro b hb; simp only [List.mem_cons, List.not_mem_nil, or_false] at hb; rcases hb with rfl | rfl | rfl | rfl | rfl | rfl | rfl | rfl | rfl | rfl | rfl | rfl | rfl | rfl | rfl | rfl | rfl | rfl | rfl | rfl | rfl <;> omega, by intro v hv; simp only [HGfp8_0, List.mem_cons, List.not_mem_nil, or_false] at hv; rcases hv with rfl | rfl | rfl | rfl | rfl | rfl | rfl | rfl | rfl | rfl | rfl | rfl | rfl | rfl | rfl | rfl | rfl | rfl | rfl | rfl | rfl <;> exact ⟨_, _, rfl⟩, .inr (.inl ⟨_, rfl, _, _, rfl⟩), rfl⟩
theorem HGfp8_1_ok (gg port : Int) (hg0 : 0 ≤ gg) (hg1 : gg ≤ 4294967295) (hp0 : -9223372036854775808 ≤ port) (hp1 : port ≤ 9223372036854775807) (hc : HGfK8 gg port) : @PEntOK (env (HGfv8 gg port)) HGfp8_1 := by
  letI : Env := (env (HGfv8 gg port))
  obtain ⟨c0, c1, c2, c3, c4, c5, c6, c7, c8, c9, c10, c11, c12, c13, c14, c15, _⟩ := hc
  exact ⟨[69, 0, 0, 29, 0, 1, 0, 0, 64, 17, 0, 0, 10, 0, 0, 1, (gg / 16777216), ((gg / 65536) % 256), ((gg / 256) % 256), (gg % 256)], rfl, by intro b hb; simp only [List.mem_cons, List.not_mem_nil, or_false] at hb; rcases hb with rfl | rfl | rfl | rfl | rfl | rfl | rfl | rfl | rfl | rfl | rfl | rfl | rfl | rfl | rfl | rfl | rfl | rfl | rfl | rfl <;> omega, by intro v hv; simp only [HGfp8_1, List.mem_cons, List.not_mem_nil, or_false] at hv; rcases hv with rfl | rfl | rfl | rfl | rfl | rfl | rfl | rfl | rfl | rfl | rfl | rfl | rfl | rfl | rfl | rfl | rfl | rfl | rfl | rfl <;> exact ⟨_, _, rfl⟩, .inr (.inl ⟨_, rfl, _, _, rfl⟩), rfl⟩
theorem HGfe9_0_ok (gg port : Int) (hg0 : 0 ≤ gg) (hg1 : gg ≤ 4294967295) (hp0 : -9223372036854775808 ≤ port) (hp1 : port ≤ 9223372036854775807) (hc : HGfK9 gg port) : @EntOK (env (HGfv9 gg port)) Tryz.prog HGfe9_0 := by
  letI : Env := (env (HGfv9 gg port))
  obtain ⟨c0, c1, c2, c3, c4, c5, c6, c7, c8, c9, c10, c11, c12, c13, c14, c15, _⟩ := hc
  exact entCmp (k := .i64) (a := port) (b := 1) rfl rfl (by show some (decide ((port : Int) < 1)) = some false; rw [decide_eq_false (by first | omega | (simp only [sumVal, oct.sumF, oct.F, oct.ws]; omega) | (simp only [sumVal, oct.sumF, oct.F, oct.ws] at *; omega))])
theorem HGfe9_1_ok (gg port : Int) (hg0 : 0 ≤ gg) (hg1 : gg ≤ 4294967295) (hp0 : -9223372036854775808 ≤ port) (hp1 : port ≤ 9223372036854775807) (hc : HGfK9 gg port) : @EntOK (env (HGfv9 gg port)) Tryz.prog HGfe9_1 := by
  letI : Env := (env (HGfv9 gg port))
  obtain ⟨c0, c1, c2, c3, c4, c5, c6, c7, c8, c9, c10, c11, c12, c13, c14, c15, _⟩ := hc
  exact entCmp (k := .i64) (a := port) (b := 65535) rfl rfl (by show some (decide ((port : Int) > 65535)) = some false; rw [decide_eq_false (by first | omega | (simp only [sumVal, oct.sumF, oct.F, oct.ws]; omega) | (simp only [sumVal, oct.sumF, oct.F, oct.ws] at *; omega))])
theorem HGfe9_2_ok (gg port : Int) (hg0 : 0 ≤ gg) (hg1 : gg ≤ 4294967295) (hp0 : -9223372036854775808 ≤ port) (hp1 : port ≤ 9223372036854775807) (hc : HGfK9 gg port) : @EntOK (env (HGfv9 gg port)) Tryz.prog HGfe9_2 := by
  letI : Env := (env (HGfv9 gg port))
  obtain ⟨c0, c1, c2, c3, c4, c5, c6, c7, c8, c9, c10, c11, c12, c13, c14, c15, _⟩ := hc
  exact entCmp (k := .u32) (a := gg) (b := 3758096385) rfl rfl (by show some (decide ((gg : Int) ≤ 3758096385)) = some false; rw [decide_eq_false (by first | omega | (simp only [sumVal, oct.sumF, oct.F, oct.ws]; omega) | (simp only [sumVal, oct.sumF, oct.F, oct.ws] at *; omega))])
theorem HGfe9_3_ok (gg port : Int) (hg0 : 0 ≤ gg) (hg1 : gg ≤ 4294967295) (hp0 : -9223372036854775808 ≤ port) (hp1 : port ≤ 9223372036854775807) (hc : HGfK9 gg port) : @EntOK (env (HGfv9 gg port)) Tryz.prog HGfe9_3 := by
  letI : Env := (env (HGfv9 gg port))
  obtain ⟨c0, c1, c2, c3, c4, c5, c6, c7, c8, c9, c10, c11, c12, c13, c14, c15, _⟩ := hc
  exact entCmp (k := .u32) (a := gg) (b := 4026531840) rfl rfl (by show some (decide ((gg : Int) ≥ 4026531840)) = some false; rw [decide_eq_false (by first | omega | (simp only [sumVal, oct.sumF, oct.F, oct.ws]; omega) | (simp only [sumVal, oct.sumF, oct.F, oct.ws] at *; omega))])
theorem HGfe9_4_ok (gg port : Int) (hg0 : 0 ≤ gg) (hg1 : gg ≤ 4294967295) (hp0 : -9223372036854775808 ≤ port) (hp1 : port ≤ 9223372036854775807) (hc : HGfK9 gg port) : @EntOK (env (HGfv9 gg port)) Tryz.prog HGfe9_4 := by
  letI : Env := (env (HGfv9 gg port))
  obtain ⟨c0, c1, c2, c3, c4, c5, c6, c7, c8, c9, c10, c11, c12, c13, c14, c15, _⟩ := hc
  exact entCmp (k := .i64) (a := port) (b := 1) rfl rfl (by show some (decide ((port : Int) ≥ 1)) = some true; rw [decide_eq_true (by first | omega | (simp only [sumVal, oct.sumF, oct.F, oct.ws]; omega) | (simp only [sumVal, oct.sumF, oct.F, oct.ws] at *; omega))])
theorem HGfe9_5_ok (gg port : Int) (hg0 : 0 ≤ gg) (hg1 : gg ≤ 4294967295) (hp0 : -9223372036854775808 ≤ port) (hp1 : port ≤ 9223372036854775807) (hc : HGfK9 gg port) : @EntOK (env (HGfv9 gg port)) Tryz.prog HGfe9_5 := by
  letI : Env := (env (HGfv9 gg port))
  obtain ⟨c0, c1, c2, c3, c4, c5, c6, c7, c8, c9, c10, c11, c12, c13, c14, c15, _⟩ := hc
  exact entCmp (k := .i64) (a := port) (b := 65535) rfl rfl (by show some (decide ((port : Int) ≤ 65535)) = some true; rw [decide_eq_true (by first | omega | (simp only [sumVal, oct.sumF, oct.F, oct.ws]; omega) | (simp only [sumVal, oct.sumF, oct.F, oct.ws] at *; omega))])
theorem HGfe9_6_ok (gg port : Int) (hg0 : 0 ≤ gg) (hg1 : gg ≤ 4294967295) (hp0 : -9223372036854775808 ≤ port) (hp1 : port ≤ 9223372036854775807) (hc : HGfK9 gg port) : @EntOK (env (HGfv9 gg port)) Tryz.prog HGfe9_6 := by
  letI : Env := (env (HGfv9 gg port))
  obtain ⟨c0, c1, c2, c3, c4, c5, c6, c7, c8, c9, c10, c11, c12, c13, c14, c15, _⟩ := hc
  exact entCmp (k := .i64) (a := port) (b := 0) rfl rfl (by show some (decide ((port : Int) ≥ 0)) = some true; rw [decide_eq_true (by first | omega | (simp only [sumVal, oct.sumF, oct.F, oct.ws]; omega) | (simp only [sumVal, oct.sumF, oct.F, oct.ws] at *; omega))])
theorem HGfe9_7_ok (gg port : Int) (hg0 : 0 ≤ gg) (hg1 : gg ≤ 4294967295) (hp0 : -9223372036854775808 ≤ port) (hp1 : port ≤ 9223372036854775807) (hc : HGfK9 gg port) : @EntOK (env (HGfv9 gg port)) Tryz.prog HGfe9_7 := by
  letI : Env := (env (HGfv9 gg port))
  obtain ⟨c0, c1, c2, c3, c4, c5, c6, c7, c8, c9, c10, c11, c12, c13, c14, c15, _⟩ := hc
  exact entConvV (k := .u64) (l := .i64) (a := port) (c := (port % 18446744073709551616)) rfl rfl (by rw [IntKind.wrap_u64])
theorem HGfe9_8_ok (gg port : Int) (hg0 : 0 ≤ gg) (hg1 : gg ≤ 4294967295) (hp0 : -9223372036854775808 ≤ port) (hp1 : port ≤ 9223372036854775807) (hc : HGfK9 gg port) : @EntOK (env (HGfv9 gg port)) Tryz.prog HGfe9_8 := by
  letI : Env := (env (HGfv9 gg port))
  obtain ⟨c0, c1, c2, c3, c4, c5, c6, c7, c8, c9, c10, c11, c12, c13, c14, c15, _⟩ := hc
  exact entShrV (k := .u64) (l := .u64) (a := (port % 18446744073709551616)) (c := ((port % 18446744073709551616) / 256)) (s := 8) rfl rfl rfl (by decide) (by exact fdiv_nat _ 256)
theorem HGfe9_9_ok (gg port : Int) (hg0 : 0 ≤ gg) (hg1 : gg ≤ 4294967295) (hp0 : -9223372036854775808 ≤ port) (hp1 : port ≤ 9223372036854775807) (hc : HGfK9 gg port) : @EntOK (env (HGfv9 gg port)) Tryz.prog HGfe9_9 := by
  letI : Env := (env (HGfv9 gg port))
  obtain ⟨c0, c1, c2, c3, c4, c5, c6, c7, c8, c9, c10, c11, c12, c13, c14, c15, _⟩ := hc
  exact entConvV (k := .u8) (l := .u64) (a := ((port % 18446744073709551616) / 256)) (c := (((port % 18446744073709551616) / 256) % 256)) rfl rfl (by rw [IntKind.wrap_u8])
theorem HGfe9_10_ok (gg port : Int) (hg0 : 0 ≤ gg) (hg1 : gg ≤ 4294967295) (hp0 : -9223372036854775808 ≤ port) (hp1 : port ≤ 9223372036854775807) (hc : HGfK9 gg port) : @EntOK (env (HGfv9 gg port)) Tryz.prog HGfe9_10 := by
  letI : Env := (env (HGfv9 gg port))
  obtain ⟨c0, c1, c2, c3, c4, c5, c6, c7, c8, c9, c10, c11, c12, c13, c14, c15, _⟩ := hc
  exact entConvV (k := .u8) (l := .u64) (a := (port % 18446744073709551616)) (c := ((port % 18446744073709551616) % 256)) rfl rfl (by rw [IntKind.wrap_u8])
theorem HGfe9_11_ok (gg port : Int) (hg0 : 0 ≤ gg) (hg1 : gg ≤ 4294967295) (hp0 : -9223372036854775808 ≤ port) (hp1 : port ≤ 9223372036854775807) (hc : HGfK9 gg port) : @EntOK (env (HGfv9 gg port)) Tryz.prog HGfe9_11 := by
  letI : Env := (env (HGfv9 gg port))
  obtain ⟨c0, c1, c2, c3, c4, c5, c6, c7, c8, c9, c10, c11, c12, c13, c14, c15, _⟩ := hc
  exact entShrV (k := .u32) (l := .u64) (a := gg) (c := (gg / 16777216)) (s := 24) rfl rfl rfl (by decide) (by exact fdiv_nat _ 16777216)
theorem HGfe9_12_ok (gg port : Int) (hg0 : 0 ≤ gg) (hg1 : gg ≤ 4294967295) (hp0 : -9223372036854775808 ≤ port) (hp1 : port ≤ 9223372036854775807) (hc : HGfK9 gg port) : @EntOK (env (HGfv9 gg port)) Tryz.prog HGfe9_12 := by
  letI : Env := (env (HGfv9 gg port))
  obtain ⟨c0, c1, c2, c3, c4, c5, c6, c7, c8, c9, c10, c11, c12, c13, c14, c15, _⟩ := hc
  exact entConvV (k := .u8) (l := .u32) (a := (gg / 16777216)) (c := (gg / 16777216)) rfl rfl (by rw [IntWalk.u8_in _ (by first | omega | (simp only [sumVal, oct.sumF, oct.F, oct.ws]; omega) | (simp only [sumVal, oct.sumF, oct.F, oct.ws] at *; omega))])
theorem HGfe9_13_ok (gg port : Int) (hg0 : 0 ≤ gg) (hg1 : gg ≤ 4294967295) (hp0 : -9223372036854775808 ≤ port) (hp1 : port ≤ 9223372036854775807) (hc : HGfK9 gg port) : @EntOK (env (HGfv9 gg port)) Tryz.prog HGfe9_13 := by
  letI : Env := (env (HGfv9 gg port))
  obtain ⟨c0, c1, c2, c3, c4, c5, c6, c7, c8, c9, c10, c11, c12, c13, c14, c15, _⟩ := hc
  exact entShrV (k := .u32) (l := .u64) (a := gg) (c := (gg / 65536)) (s := 16) rfl rfl rfl (by decide) (by exact fdiv_nat _ 65536)
theorem HGfe9_14_ok (gg port : Int) (hg0 : 0 ≤ gg) (hg1 : gg ≤ 4294967295) (hp0 : -9223372036854775808 ≤ port) (hp1 : port ≤ 9223372036854775807) (hc : HGfK9 gg port) : @EntOK (env (HGfv9 gg port)) Tryz.prog HGfe9_14 := by
  letI : Env := (env (HGfv9 gg port))
  obtain ⟨c0, c1, c2, c3, c4, c5, c6, c7, c8, c9, c10, c11, c12, c13, c14, c15, _⟩ := hc
  exact entConvV (k := .u8) (l := .u32) (a := (gg / 65536)) (c := ((gg / 65536) % 256)) rfl rfl (by rw [IntKind.wrap_u8])
theorem HGfe9_15_ok (gg port : Int) (hg0 : 0 ≤ gg) (hg1 : gg ≤ 4294967295) (hp0 : -9223372036854775808 ≤ port) (hp1 : port ≤ 9223372036854775807) (hc : HGfK9 gg port) : @EntOK (env (HGfv9 gg port)) Tryz.prog HGfe9_15 := by
  letI : Env := (env (HGfv9 gg port))
  obtain ⟨c0, c1, c2, c3, c4, c5, c6, c7, c8, c9, c10, c11, c12, c13, c14, c15, _⟩ := hc
  exact entShrV (k := .u32) (l := .u64) (a := gg) (c := (gg / 256)) (s := 8) rfl rfl rfl (by decide) (by exact fdiv_nat _ 256)
theorem HGfe9_16_ok (gg port : Int) (hg0 : 0 ≤ gg) (hg1 : gg ≤ 4294967295) (hp0 : -9223372036854775808 ≤ port) (hp1 : port ≤ 9223372036854775807) (hc : HGfK9 gg port) : @EntOK (env (HGfv9 gg port)) Tryz.prog HGfe9_16 := by
  letI : Env := (env (HGfv9 gg port))
  obtain ⟨c0, c1, c2, c3, c4, c5, c6, c7, c8, c9, c10, c11, c12, c13, c14, c15, _⟩ := hc
  exact entConvV (k := .u8) (l := .u32) (a := (gg / 256)) (c := ((gg / 256) % 256)) rfl rfl (by rw [IntKind.wrap_u8])
theorem HGfe9_17_ok (gg port : Int) (hg0 : 0 ≤ gg) (hg1 : gg ≤ 4294967295) (hp0 : -9223372036854775808 ≤ port) (hp1 : port ≤ 9223372036854775807) (hc : HGfK9 gg port) : @EntOK (env (HGfv9 gg port)) Tryz.prog HGfe9_17 := by
  letI : Env := (env (HGfv9 gg port))
  obtain ⟨c0, c1, c2, c3, c4, c5, c6, c7, c8, c9, c10, c11, c12, c13, c14, c15, _⟩ := hc
  exact entConvV (k := .u8) (l := .u32) (a := gg) (c := (gg % 256)) rfl rfl (by rw [IntKind.wrap_u8])
theorem HGfe9_18_ok (gg port : Int) (hg0 : 0 ≤ gg) (hg1 : gg ≤ 4294967295) (hp0 : -9223372036854775808 ≤ port) (hp1 : port ≤ 9223372036854775807) (hc : HGfK9 gg port) : @EntOK (env (HGfv9 gg port)) Tryz.prog HGfe9_18 := by
  letI : Env := (env (HGfv9 gg port))
  obtain ⟨c0, c1, c2, c3, c4, c5, c6, c7, c8, c9, c10, c11, c12, c13, c14, c15, _⟩ := hc
  have bd0 := sumVal_bd true [10, 0, 0, 1, (gg / 16777216), ((gg / 65536) % 256), ((gg / 256) % 256), (gg % 256), 0, 17, 0, 9, 0, 5, (((port % 18446744073709551616) / 256) % 256), ((port % 18446744073709551616) % 256), 0, 9, 0, 0, 120] (by intro b hb; simp only [List.mem_cons, List.not_mem_nil, or_false] at hb; rcases hb with rfl | rfl | rfl | rfl | rfl | rfl | rfl | rfl | rfl | rfl | rfl | rfl | rfl | rfl | rfl | rfl | rfl | rfl | rfl | rfl | rfl <;> omega)
  exact entCmp (k := .i64) (a := (sumVal true [10, 0, 0, 1, (gg / 16777216), ((gg / 65536) % 256), ((gg / 256) % 256), (gg % 256), 0, 17, 0, 9, 0, 5, (((port % 18446744073709551616) / 256) % 256), ((port % 18446744073709551616) % 256), 0, 9, 0, 0, 120])) (b := 0) rfl rfl (by show some (((sumVal true [10, 0, 0, 1, (gg / 16777216), ((gg / 65536) % 256), ((gg / 256) % 256), (gg % 256), 0, 17, 0, 9, 0, 5, (((port % 18446744073709551616) / 256) % 256), ((port % 18446744073709551616) % 256), 0, 9, 0, 0, 120]) : Int) == 0) = some true; rw [beq_iff_eq.2 (by first | omega | (simp only [sumVal, oct.sumF, oct.F, oct.ws]; omega) | (simp only [sumVal, oct.sumF, oct.F, oct.ws] at *; omega))])
theorem HGfe9_19_ok (gg port : Int) (hg0 : 0 ≤ gg) (hg1 : gg ≤ 4294967295) (hp0 : -9223372036854775808 ≤ port) (hp1 : port ≤ 9223372036854775807) (hc : HGfK9 gg port) : @EntOK (env (HGfv9 gg port)) Tryz.prog HGfe9_19 := by
  letI : Env := (env (HGfv9 gg port))
  obtain ⟨c0, c1, c2, c3, c4, c5, c6, c7, c8, c9, c10, c11, c12, c13, c14, c15, _⟩ := hc
  have bd1 := sumVal_bd true [69, 0, 0, 29, 0, 1, 0, 0, 64, 17, 0, 0, 10, 0, 0, 1, (gg / 16777216), ((gg / 65536) % 256), ((gg / 256) % 256), (gg % 256)] (by intro b hb; simp only [List.mem_cons, List.not_mem_nil, or_false] at hb; rcases hb with rfl | rfl | rfl | rfl | rfl | rfl | rfl | rfl | rfl | rfl | rfl | rfl | rfl | rfl | rfl | rfl | rfl | rfl | rfl | rfl <;> omega)
  exact entConvV (k := .u64) (l := .i64) (a := (sumVal true [69, 0, 0, 29, 0, 1, 0, 0, 64, 17, 0, 0, 10, 0, 0, 1, (gg / 16777216), ((gg / 65536) % 256), ((gg / 256) % 256), (gg % 256)])) (c := (sumVal true [69, 0, 0, 29, 0, 1, 0, 0, 64, 17, 0, 0, 10, 0, 0, 1, (gg / 16777216), ((gg / 65536) % 256), ((gg / 256) % 256), (gg % 256)])) rfl rfl (by rw [IntWalk.u64_in _ (by first | omega | (simp only [sumVal, oct.sumF, oct.F, oct.ws]; omega) | (simp only [sumVal, oct.sumF, oct.F, oct.ws] at *; omega))])
theorem HGfe9_20_ok (gg port : Int) (hg0 : 0 ≤ gg) (hg1 : gg ≤ 4294967295) (hp0 : -9223372036854775808 ≤ port) (hp1 : port ≤ 9223372036854775807) (hc : HGfK9 gg port) : @EntOK (env (HGfv9 gg port)) Tryz.prog HGfe9_20 := by
  letI : Env := (env (HGfv9 gg port))
  obtain ⟨c0, c1, c2, c3, c4, c5, c6, c7, c8, c9, c10, c11, c12, c13, c14, c15, _⟩ := hc
  have bd1 := sumVal_bd true [69, 0, 0, 29, 0, 1, 0, 0, 64, 17, 0, 0, 10, 0, 0, 1, (gg / 16777216), ((gg / 65536) % 256), ((gg / 256) % 256), (gg % 256)] (by intro b hb; simp only [List.mem_cons, List.not_mem_nil, or_false] at hb; rcases hb with rfl | rfl | rfl | rfl | rfl | rfl | rfl | rfl | rfl | rfl | rfl | rfl | rfl | rfl | rfl | rfl | rfl | rfl | rfl | rfl <;> omega)
  exact entShrV (k := .u64) (l := .u64) (a := (sumVal true [69, 0, 0, 29, 0, 1, 0, 0, 64, 17, 0, 0, 10, 0, 0, 1, (gg / 16777216), ((gg / 65536) % 256), ((gg / 256) % 256), (gg % 256)])) (c := ((sumVal true [69, 0, 0, 29, 0, 1, 0, 0, 64, 17, 0, 0, 10, 0, 0, 1, (gg / 16777216), ((gg / 65536) % 256), ((gg / 256) % 256), (gg % 256)]) / 256)) (s := 8) rfl rfl rfl (by decide) (by exact fdiv_nat _ 256)
theorem HGfe9_21_ok (gg port : Int) (hg0 : 0 ≤ gg) (hg1 : gg ≤ 4294967295) (hp0 : -9223372036854775808 ≤ port) (hp1 : port ≤ 9223372036854775807) (hc : HGfK9 gg port) : @EntOK (env (HGfv9 gg port)) Tryz.prog HGfe9_21 := by
  letI : Env := (env (HGfv9 gg port))
  obtain ⟨c0, c1, c2, c3, c4, c5, c6, c7, c8, c9, c10, c11, c12, c13, c14, c15, _⟩ := hc
  have bd1 := sumVal_bd true [69, 0, 0, 29, 0, 1, 0, 0, 64, 17, 0, 0, 10, 0, 0, 1, (gg / 16777216), ((gg / 65536) % 256), ((gg / 256) % 256), (gg % 256)] (by intro b hb; simp only [List.mem_cons, List.not_mem_nil, or_false] at hb; rcases hb with rfl | rfl | rfl | rfl | rfl | rfl | rfl | rfl | rfl | rfl | rfl | rfl | rfl | rfl | rfl | rfl | rfl | rfl | rfl | rfl <;> omega)
  exact entConvV (k := .u8) (l := .u64) (a := ((sumVal true [69, 0, 0, 29, 0, 1, 0, 0, 64, 17, 0, 0, 10, 0, 0, 1, (gg / 16777216), ((gg / 65536) % 256), ((gg / 256) % 256), (gg % 256)]) / 256)) (c := ((sumVal true [69, 0, 0, 29, 0, 1, 0, 0, 64, 17, 0, 0, 10, 0, 0, 1, (gg / 16777216), ((gg / 65536) % 256), ((gg / 256) % 256), (gg % 256)]) / 256)) rfl rfl (by rw [IntWalk.u8_in _ (by first | omega | (simp only [sumVal, oct.sumF, oct.F, oct.ws]; omega) | (simp only [sumVal, oct.sumF, oct.F, oct.ws] at *; omega))])
theorem HGfe9_22_ok (gg port : Int) (hg0 : 0 ≤ gg) (hg1 : gg ≤ 4294967295) (hp0 : -9223372036854775808 ≤ port) (hp1 : port ≤ 9223372036854775807) (hc : HGfK9 gg port) : @EntOK (env (HGfv9 gg port)) Tryz.prog HGfe9_22 := by
  letI : Env := (env (HGfv9 gg port))
  obtain ⟨c0, c1, c2, c3, c4, c5, c6, c7, c8, c9, c10, c11, c12, c13, c14, c15, _⟩ := hc
  have bd1 := sumVal_bd true [69, 0, 0, 29, 0, 1, 0, 0, 64, 17, 0, 0, 10, 0, 0, 1, (gg / 16777216), ((gg / 65536) % 256), ((gg / 256) % 256), (gg % 256)] (by intro b hb; simp only [List.mem_cons, List.not_mem_nil, or_false] at hb; rcases hb with rfl | rfl | rfl | rfl | rfl | rfl | rfl | rfl | rfl | rfl | rfl | rfl | rfl | rfl | rfl | rfl | rfl | rfl | rfl | rfl <;> omega)
  exact entConvV (k := .u8) (l := .u64) (a := (sumVal true [69, 0, 0, 29, 0, 1, 0, 0, 64, 17, 0, 0, 10, 0, 0, 1, (gg / 16777216), ((gg / 65536) % 256), ((gg / 256) % 256), (gg % 256)])) (c := ((sumVal true [69, 0, 0, 29, 0, 1, 0, 0, 64, 17, 0, 0, 10, 0, 0, 1, (gg / 16777216), ((gg / 65536) % 256), ((gg / 256) % 256), (gg % 256)]) % 256)) rfl rfl (by rw [IntKind.wrap_u8])
theorem HGfe9_23_ok (gg port : Int) (hg0 : 0 ≤ gg) (hg1 : gg ≤ 4294967295) (hp0 : -9223372036854775808 ≤ port) (hp1 : port ≤ 9223372036854775807) (hc : HGfK9 gg port) : @EntOK (env (HGfv9 gg port)) Tryz.prog HGfe9_23 := by
  letI : Env := (env (HGfv9 gg port))
  obtain ⟨c0, c1, c2, c3, c4, c5, c6, c7, c8, c9, c10, c11, c12, c13, c14, c15, _⟩ := hc
  exact entCmp (k := .u32) (a := gg) (b := 167772161) rfl rfl (by show some ((gg : Int) == 167772161) = some false; rw [beq_eq_false_iff_ne.2 (by first | omega | (simp only [sumVal, oct.sumF, oct.F, oct.ws]; omega) | (simp only [sumVal, oct.sumF, oct.F, oct.ws] at *; omega))])
theorem HGfe9_24_ok (gg port : Int) (hg0 : 0 ≤ gg) (hg1 : gg ≤ 4294967295) (hp0 : -9223372036854775808 ≤ port) (hp1 : port ≤ 9223372036854775807) (hc : HGfK9 gg port) : @EntOK (env (HGfv9 gg port)) Tryz.prog HGfe9_24 := by
  letI : Env := (env (HGfv9 gg port))
  obtain ⟨c0, c1, c2, c3, c4, c5, c6, c7, c8, c9, c10, c11, c12, c13, c14, c15, _⟩ := hc
  exact entCmp (k := .u32) (a := gg) (b := 4294967295) rfl rfl (by show some ((gg : Int) == 4294967295) = some false; rw [beq_eq_false_iff_ne.2 (by first | omega | (simp only [sumVal, oct.sumF, oct.F, oct.ws]; omega) | (simp only [sumVal, oct.sumF, oct.F, oct.ws] at *; omega))])
theorem HGfe9_25_ok (gg port : Int) (hg0 : 0 ≤ gg) (hg1 : gg ≤ 4294967295) (hp0 : -9223372036854775808 ≤ port) (hp1 : port ≤ 9223372036854775807) (hc : HGfK9 gg port) : @EntOK (env (HGfv9 gg port)) Tryz.prog HGfe9_25 := by
  letI : Env := (env (HGfv9 gg port))
  obtain ⟨c0, c1, c2, c3, c4, c5, c6, c7, c8, c9, c10, c11, c12, c13, c14, c15, _⟩ := hc
  exact entCmp (k := .u32) (a := gg) (b := 167772415) rfl rfl (by show some ((gg : Int) == 167772415) = some false; rw [beq_eq_false_iff_ne.2 (by first | omega | (simp only [sumVal, oct.sumF, oct.F, oct.ws]; omega) | (simp only [sumVal, oct.sumF, oct.F, oct.ws] at *; omega))])
theorem HGfe9_26_ok (gg port : Int) (hg0 : 0 ≤ gg) (hg1 : gg ≤ 4294967295) (hp0 : -9223372036854775808 ≤ port) (hp1 : port ≤ 9223372036854775807) (hc : HGfK9 gg port) : @EntOK (env (HGfv9 gg port)) Tryz.prog HGfe9_26 := by
  letI : Env := (env (HGfv9 gg port))
  obtain ⟨c0, c1, c2, c3, c4, c5, c6, c7, c8, c9, c10, c11, c12, c13, c14, c15, _⟩ := hc
  exact entCmp (k := .u32) (a := gg) (b := 3758096384) rfl rfl (by show some (decide ((gg : Int) ≥ 3758096384)) = some true; rw [decide_eq_true (by first | omega | (simp only [sumVal, oct.sumF, oct.F, oct.ws]; omega) | (simp only [sumVal, oct.sumF, oct.F, oct.ws] at *; omega))])
theorem HGfe9_27_ok (gg port : Int) (hg0 : 0 ≤ gg) (hg1 : gg ≤ 4294967295) (hp0 : -9223372036854775808 ≤ port) (hp1 : port ≤ 9223372036854775807) (hc : HGfK9 gg port) : @EntOK (env (HGfv9 gg port)) Tryz.prog HGfe9_27 := by
  letI : Env := (env (HGfv9 gg port))
  obtain ⟨c0, c1, c2, c3, c4, c5, c6, c7, c8, c9, c10, c11, c12, c13, c14, c15, _⟩ := hc
  exact entCmp (k := .u32) (a := gg) (b := 4026531840) rfl rfl (by show some (decide ((gg : Int) < 4026531840)) = some true; rw [decide_eq_true (by first | omega | (simp only [sumVal, oct.sumF, oct.F, oct.ws]; omega) | (simp only [sumVal, oct.sumF, oct.F, oct.ws] at *; omega))])
theorem HGfe9_28_ok (gg port : Int) (hg0 : 0 ≤ gg) (hg1 : gg ≤ 4294967295) (hp0 : -9223372036854775808 ≤ port) (hp1 : port ≤ 9223372036854775807) (hc : HGfK9 gg port) : @EntOK (env (HGfv9 gg port)) Tryz.prog HGfe9_28 := by
  letI : Env := (env (HGfv9 gg port))
  obtain ⟨c0, c1, c2, c3, c4, c5, c6, c7, c8, c9, c10, c11, c12, c13, c14, c15, _⟩ := hc
  exact entAnd (k := .u8) (a := ((gg / 65536) % 256)) (b := 127) rfl rfl rfl
theorem HGfe9_29_ok (gg port : Int) (hg0 : 0 ≤ gg) (hg1 : gg ≤ 4294967295) (hp0 : -9223372036854775808 ≤ port) (hp1 : port ≤ 9223372036854775807) (hc : HGfK9 gg port) : @EntOK (env (HGfv9 gg port)) Tryz.prog HGfe9_29 := by
  letI : Env := (env (HGfv9 gg port))
  obtain ⟨c0, c1, c2, c3, c4, c5, c6, c7, c8, c9, c10, c11, c12, c13, c14, c15, _⟩ := hc
  exact ⟨by intro v hv; simp only [List.mem_cons, List.not_mem_nil, or_false] at hv; rcases hv with rfl | rfl | rfl | rfl | rfl | rfl <;> first | exact .inl ⟨_, _, rfl⟩ | exact .inr ⟨_, rfl⟩, by intro v hv; simp only [List.mem_cons, List.not_mem_nil, or_false] at hv; rcases hv with rfl | rfl | rfl | rfl | rfl | rfl <;> first | exact .inl ⟨_, _, rfl⟩ | exact .inr ⟨_, rfl⟩, by intro a1 a2 w; have e0 : ¬ (1 = 2) := (by first | omega | (simp only [sumVal, oct.sumF, oct.F, oct.ws]; omega) | (simp only [sumVal, oct.sumF, oct.F, oct.ws] at *; omega)); (refine eqMACd _ _ _ _ _ _ _ _ _ _ _ _ _ ?_ a1 a2 w; first | exact decide_eq_true (by omega) | exact decide_eq_false (by omega))⟩
theorem HGfe9_30_ok (gg port : Int) (hg0 : 0 ≤ gg) (hg1 : gg ≤ 4294967295) (hp0 : -9223372036854775808 ≤ port) (hp1 : port ≤ 9223372036854775807) (hc : HGfK9 gg port) : @EntOK (env (HGfv9 gg port)) Tryz.prog HGfe9_30 := by
  letI : Env := (env (HGfv9 gg port))
  obtain ⟨c0, c1, c2, c3, c4, c5, c6, c7, c8, c9, c10, c11, c12, c13, c14, c15, _⟩ := hc
  exact ⟨by intro v hv; simp only [List.mem_cons, List.not_mem_nil, or_false] at hv; rcases hv with rfl | rfl | rfl | rfl | rfl | rfl <;> first | exact .inl ⟨_, _, rfl⟩ | exact .inr ⟨_, rfl⟩, by intro v hv; simp only [List.mem_cons, List.not_mem_nil, or_false] at hv; rcases hv with rfl | rfl | rfl | rfl | rfl | rfl <;> first | exact .inl ⟨_, _, rfl⟩ | exact .inr ⟨_, rfl⟩, by intro a1 a2 w; have e0 : ¬ (1 = 255) := (by first | omega | (simp only [sumVal, oct.sumF, oct.F, oct.ws]; omega) | (simp only [sumVal, oct.sumF, oct.F, oct.ws] at *; omega)); (refine eqMACd _ _ _ _ _ _ _ _ _ _ _ _ _ ?_ a1 a2 w; first | exact decide_eq_true (by omega) | exact decide_eq_false (by omega))⟩
theorem HGfe9_31_ok (gg port : Int) (hg0 : 0 ≤ gg) (hg1 : gg ≤ 4294967295) (hp0 : -9223372036854775808 ≤ port) (hp1 : port ≤ 9223372036854775807) (hc : HGfK9 gg port) : @EntOK (env (HGfv9 gg port)) Tryz.prog HGfe9_31 := by
  letI : Env := (env (HGfv9 gg port))
  obtain ⟨c0, c1, c2, c3, c4, c5, c6, c7, c8, c9, c10, c11, c12, c13, c14, c15, _⟩ := hc
  exact ⟨by intro v hv; simp only [List.mem_cons, List.not_mem_nil, or_false] at hv; rcases hv with rfl | rfl | rfl | rfl | rfl | rfl <;> first | exact .inl ⟨_, _, rfl⟩ | exact .inr ⟨_, rfl⟩, by intro v hv; simp only [List.mem_cons, List.not_mem_nil, or_false] at hv; rcases hv with rfl | rfl | rfl | rfl | rfl | rfl <;> first | exact .inl ⟨_, _, rfl⟩ | exact .inr ⟨_, rfl⟩, by intro a1 a2 w; have e0 : (band .u8 ((gg / 65536) % 256) 127) = 0 := (by first | omega | (simp only [sumVal, oct.sumF, oct.F, oct.ws]; omega) | (simp only [sumVal, oct.sumF, oct.F, oct.ws] at *; omega)); have e1 : ((gg / 256) % 256) = 0 := (by first | omega | (simp only [sumVal, oct.sumF, oct.F, oct.ws]; omega) | (simp only [sumVal, oct.sumF, oct.F, oct.ws] at *; omega)); have e2 : ¬ ((gg % 256) = 1) := (by first | omega | (simp only [sumVal, oct.sumF, oct.F, oct.ws]; omega) | (simp only [sumVal, oct.sumF, oct.F, oct.ws] at *; omega)); (refine eqMACd _ _ _ _ _ _ _ _ _ _ _ _ _ ?_ a1 a2 w; first | exact decide_eq_true (by omega) | exact decide_eq_false (by omega))⟩
theorem HGfp9_0_ok (gg port : Int) (hg0 : 0 ≤ gg) (hg1 : gg ≤ 4294967295) (hp0 : -9223372036854775808 ≤ port) (hp1 : port ≤ 9223372036854775807) (hc : HGfK9 gg port) : @PEntOK (env (HGfv9 gg port)) HGfp9_0 := by
  letI : Env := (env (HGfv9 gg port))
  obtain ⟨c0, c1, c2, c3, c4, c5, c6, c7, c8, c9, c10, c11, c12, c13, c14, c15, _⟩ := hc
  exact ⟨[10, 0, 0, 1, (gg / 16777216), ((gg / 65536) % 256), ((gg / 256) % 256), (gg % 256), 0, 17, 0, 9, 0, 5, (((port % 18446744073709551616) / 256) % 256), ((port % 18446744073709551616) % 256), 0, 9, 0, 0, 120], rfl, by intro b hb; simp only [List.mem_cons, List.not_mem_nil, or_false] at hb; rcases hb with rfl | rfl | rfl | rfl | rfl | rfl | rfl | rfl | rfl | rfl | rfl | rfl | rfl | rfl | rfl | rfl | rfl | rfl | rfl | rfl | rfl <;> omega, by intro v hv; simp only [HGfp9_0, List.mem_cons, List.not_mem_nil, or_false] at hv; rcases hv with rfl | rfl | rfl | rfl | rfl | rfl | rfl | rfl | rfl | rfl | rfl | rfl | rfl | rfl | rfl | rfl | rfl | rfl | rfl | rfl | rfl <;> exact ⟨_, _, rfl⟩, .inr (.inl ⟨_, rfl, _, _, rfl⟩), rfl⟩
theorem HGfp9_1_ok (gg port : Int) (hg0 : 0 ≤ gg) (hg1 : gg ≤ 4294967295) (hp0 : -9223372036854775808 ≤ port) (hp1 : port ≤ 9223372036854775807) (hc : HGfK9 gg port) : @PEntOK (env (HGfv9 gg port)) HGfp9_1 := by
  letI : Env := (env (HGfv9 gg port))
  obtain ⟨c0, c1, c2, c3, c4, c5, c6, c7, c8, c9, c10, c11, c12, c13, c14, c15, _⟩ := hc
  exact ⟨[69, 0, 0, 29, 0, 1, 0, 0, 64, 17, 0, 0, 10, 0, 0, 1, (gg / 16777216), ((gg / 65536) % 256), ((gg / 256) % 256), (gg % 256)], rfl, by intro b hb; simp only [List.mem_cons, List.not_mem_nil, or_false] at hb; rcases hb with rfl | rfl | rfl | rfl | rfl | rfl | rfl | rfl | rfl | rfl | rfl | rfl | rfl | rfl | rfl | rfl | rfl | rfl | rfl | rfl <;> omega, by intro v hv; simp only [HGfp9_1, List.mem_cons, List.not_mem_nil, or_false] at hv; rcases hv with rfl | rfl | rfl | rfl | rfl | rfl | rfl | rfl | rfl | rfl | rfl | rfl | rfl | rfl | rfl | rfl | rfl | rfl | rfl | rfl <;> exact ⟨_, _, rfl⟩, .inr (.inl ⟨_, rfl, _, _, rfl⟩), rfl⟩
theorem HGfe10_0_ok (gg port : Int) (hg0 : 0 ≤ gg) (hg1 : gg ≤ 4294967295) (hp0 : -9223372036854775808 ≤ port) (hp1 : port ≤ 9223372036854775807) (hc : HGfK10 gg port) : @EntOK (env (HGfv10 gg port)) Tryz.prog HGfe10_0 := by
  letI : Env := (env (HGfv10 gg port))
  obtain ⟨c0, c1, c2, c3, c4, c5, c6, c7, c8, c9, c10, c11, c12, c13, c14, c15, c16, c17, c18, c19, _⟩ := hc
  exact entCmp (k := .i64) (a := port) (b := 1) rfl rfl (by show some (decide ((port : Int) < 1)) = some false; rw [decide_eq_false (by first | omega | (simp only [sumVal, oct.sumF, oct.F, oct.ws]; omega) | (simp only [sumVal, oct.sumF, oct.F, oct.ws] at *; omega))])
theorem HGfe10_1_ok (gg port : Int) (hg0 : 0 ≤ gg) (hg1 : gg ≤ 4294967295) (hp0 : -9223372036854775808 ≤ port) (hp1 : port ≤ 9223372036854775807) (hc : HGfK10 gg port) : @EntOK (env (HGfv10 gg port)) Tryz.prog HGfe10_1 := by
  letI : Env := (env (HGfv10 gg port))
  obtain ⟨c0, c1, c2, c3, c4, c5, c6, c7, c8, c9, c10, c11, c12, c13, c14, c15, c16, c17, c18, c19, _⟩ := hc
  exact entCmp (k := .i64) (a := port) (b := 65535) rfl rfl (by show some (decide ((port : Int) > 65535)) = some false; rw [decide_eq_false (by first | omega | (simp only [sumVal, oct.sumF, oct.F, oct.ws]; omega) | (simp only [sumVal, oct.sumF, oct.F, oct.ws] at *; omega))])
theorem HGfe10_2_ok (gg port : Int) (hg0 : 0 ≤ gg) (hg1 : gg ≤ 4294967295) (hp0 : -9223372036854775808 ≤ port) (hp1 : port ≤ 9223372036854775807) (hc : HGfK10 gg port) : @EntOK (env (HGfv10 gg port)) Tryz.prog HGfe10_2 := by
  letI : Env := (env (HGfv10 gg port))
  obtain ⟨c0, c1, c2, c3, c4, c5, c6, c7, c8, c9, c10, c11, c12, c13, c14, c15, c16, c17, c18, c19, _⟩ := hc
  exact entCmp (k := .u32) (a := gg) (b := 3758096385) rfl rfl (by show some (decide ((gg : Int) ≤ 3758096385)) = some false; rw [decide_eq_false (by first | omega | (simp only [sumVal, oct.sumF, oct.F, oct.ws]; omega) | (simp only [sumVal, oct.sumF, oct.F, oct.ws] at *; omega))])
theorem HGfe10_3_ok (gg port : Int) (hg0 : 0 ≤ gg) (hg1 : gg ≤ 4294967295) (hp0 : -9223372036854775808 ≤ port) (hp1 : port ≤ 9223372036854775807) (hc : HGfK10 gg port) : @EntOK (env (HGfv10 gg port)) Tryz.prog HGfe10_3 := by
  letI : Env := (env (HGfv10 gg port))
  obtain ⟨c0, c1, c2, c3, c4, c5, c6, c7, c8, c9, c10, c11, c12, c13, c14, c15, c16, c17, c18, c19, _⟩ := hc
  exact entCmp (k := .u32) (a := gg) (b := 4026531840) rfl rfl (by show some (decide ((gg : Int) ≥ 4026531840)) = some false; rw [decide_eq_false (by first | omega | (simp only [sumVal, oct.sumF, oct.F, oct.ws]; omega) | (simp only [sumVal, oct.sumF, oct.F, oct.ws] at *; omega))])
theorem HGfe10_4_ok (gg port : Int) (hg0 : 0 ≤ gg) (hg1 : gg ≤ 4294967295) (hp0 : -9223372036854775808 ≤ port) (hp1 : port ≤ 9223372036854775807) (hc : HGfK10 gg port) : @EntOK (env (HGfv10 gg port)) Tryz.prog HGfe10_4 := by
  letI : Env := (env (HGfv10 gg port))
  obtain ⟨c0, c1, c2, c3, c4, c5, c6, c7, c8, c9, c10, c11, c12, c13, c14, c15, c16, c17, c18, c19, _⟩ := hc
  exact entCmp (k := .i64) (a := port) (b := 1) rfl rfl (by show some (decide ((port : Int) ≥ 1)) = some true; rw [decide_eq_true (by first | omega | (simp only [sumVal, oct.sumF, oct.F, oct.ws]; omega) | (simp only [sumVal, oct.sumF, oct.F, oct.ws] at *; omega))])
theorem HGfe10_5_ok (gg port : Int) (hg0 : 0 ≤ gg) (hg1 : gg ≤ 4294967295) (hp0 : -9223372036854775808 ≤ port) (hp1 : port ≤ 9223372036854775807) (hc : HGfK10 gg port) : @EntOK (env (HGfv10 gg port)) Tryz.prog HGfe10_5 := by
  letI : Env := (env (HGfv10 gg port))
  obtain ⟨c0, c1, c2, c3, c4, c5, c6, c7, c8, c9, c10, c11, c12, c13, c14, c15, c16, c17, c18, c19, _⟩ := hc
  exact entCmp (k := .i64) (a := port) (b := 65535) rfl rfl (by show some (decide ((port : Int) ≤ 65535)) = some true; rw [decide_eq_true (by first | omega | (simp only [sumVal, oct.sumF, oct.F, oct.ws]; omega) | (simp only [sumVal, oct.sumF, oct.F, oct.ws] at *; omega))])
theorem HGfe10_6_ok (gg port : Int) (hg0 : 0 ≤ gg) (hg1 : gg ≤ 4294967295) (hp0 : -9223372036854775808 ≤ port) (hp1 : port ≤ 9223372036854775807) (hc : HGfK10 gg port) : @EntOK (env (HGfv10 gg port)) Tryz.prog HGfe10_6 := by
  letI : Env := (env (HGfv10 gg port))
  obtain ⟨c0, c1, c2, c3, c4, c5, c6, c7, c8, c9, c10, c11, c12, c13, c14, c15, c16, c17, c18, c19, _⟩ := hc
  exact entCmp (k := .i64) (a := port) (b := 0) rfl rfl (by show some (decide ((port : Int) ≥ 0)) = some true; rw [decide_eq_true (by first | omega | (simp only [sumVal, oct.sumF, oct.F, oct.ws]; omega) | (simp only [sumVal, oct.sumF, oct.F, oct.ws] at *; omega))])
theorem HGfe10_7_ok (gg port : Int) (hg0 : 0 ≤ gg) (hg1 : gg ≤ 4294967295) (hp0 : -9223372036854775808 ≤ port) (hp1 : port ≤ 9223372036854775807) (hc : HGfK10 gg port) : @EntOK (env (HGfv10 gg port)) Tryz.prog HGfe10_7 := by
  letI : Env := (env (HGfv10 gg port))
  obtain ⟨c0, c1, c2, c3, c4, c5, c6, c7, c8, c9, c10, c11, c12, c13, c14, c15, c16, c17, c18, c19, _⟩ := hc
  exact entConvV (k := .u64) (l := .i64) (a := port) (c := (port % 18446744073709551616)) rfl rfl (by rw [IntKind.wrap_u64])
theorem HGfe10_8_ok (gg port : Int) (hg0 : 0 ≤ gg) (hg1 : gg ≤ 4294967295) (hp0 : -9223372036854775808 ≤ port) (hp1 : port ≤ 9223372036854775807) (hc : HGfK10 gg port) : @EntOK (env (HGfv10 gg port)) Tryz.prog HGfe10_8 := by
  letI : Env := (env (HGfv10 gg port))
  obtain ⟨c0, c1, c2, c3, c4, c5, c6, c7, c8, c9, c10, c11, c12, c13, c14, c15, c16, c17, c18, c19, _⟩ := hc
  exact entShrV (k := .u64) (l := .u64) (a := (port % 18446744073709551616)) (c := ((port % 18446744073709551616) / 256)) (s := 8) rfl rfl rfl (by decide) (by exact fdiv_nat _ 256)
theorem HGfe10_9_ok (gg port : Int) (hg0 : 0 ≤ gg) (hg1 : gg ≤ 4294967295) (hp0 : -9223372036854775808 ≤ port) (hp1 : port ≤ 9223372036854775807) (hc : HGfK10 gg port) : @EntOK (env (HGfv10 gg port)) Tryz.prog HGfe10_9 := by
  letI : Env := (env (HGfv10 gg port))
  obtain ⟨c0, c1, c2, c3, c4, c5, c6, c7, c8, c9, c10, c11, c12, c13, c14, c15, c16, c17, c18, c19, _⟩ := hc
  exact entConvV (k := .u8) (l := .u64) (a := ((port % 18446744073709551616) / 256)) (c := (((port % 18446744073709551616) / 256) % 256)) rfl rfl (by rw [IntKind.wrap_u8])
theorem HGfe10_10_ok (gg port : Int) (hg0 : 0 ≤ gg) (hg1 : gg ≤ 4294967295) (hp0 : -9223372036854775808 ≤ port) (hp1 : port ≤ 9223372036854775807) (hc : HGfK10 gg port) : @EntOK (env (HGfv10 gg port)) Tryz.prog HGfe10_10 := by
  letI : Env := (env (HGfv10 gg port))
  obtain ⟨c0, c1, c2, c3, c4, c5, c6, c7, c8, c9, c10, c11, c12, c13, c14, c15, c16, c17, c18, c19, _⟩ := hc
  exact entConvV (k := .u8) (l := .u64) (a := (port % 18446744073709551616)) (c := ((port % 18446744073709551616) % 256)) rfl rfl (by rw [IntKind.wrap_u8])
theorem HGfe10_11_ok (gg port : Int) (hg0 : 0 ≤ gg) (hg1 : gg ≤ 4294967295) (hp0 : -9223372036854775808 ≤ port) (hp1 : port ≤ 9223372036854775807) (hc : HGfK10 gg port) : @EntOK (env (HGfv10 gg port)) Tryz.prog HGfe10_11 := by
  letI : Env := (env (HGfv10 gg port))
  obtain ⟨c0, c1, c2, c3, c4, c5, c6, c7, c8, c9, c10, c11, c12, c13, c14, c15, c16, c17, c18, c19, _⟩ := hc
  exact entShrV (k := .u32) (l := .u64) (a := gg) (c := (gg / 16777216)) (s := 24) rfl rfl rfl (by decide) (by exact fdiv_nat _ 16777216)
theorem HGfe10_12_ok (gg port : Int) (hg0 : 0 ≤ gg) (hg1 : gg ≤ 4294967295) (hp0 : -9223372036854775808 ≤ port) (hp1 : port ≤ 9223372036854775807) (hc : HGfK10 gg port) : @EntOK (env (HGfv10 gg port)) Tryz.prog HGfe10_12 := by
  letI : Env := (env (HGfv10 gg port))
  obtain ⟨c0, c1, c2, c3, c4, c5, c6, c7, c8, c9, c10, c11, c12, c13, c14, c15, c16, c17, c18, c19, _⟩ := hc
  exact entConvV (k := .u8) (l := .u32) (a := (gg / 16777216)) (c := (gg / 16777216)) rfl rfl (by rw [IntWalk.u8_in _ (by first | omega | (simp only [sumVal, oct.sumF, oct.F, oct.ws]; omega) | (simp only [sumVal, oct.sumF, oct.F, oct.ws] at *; omega))])
theorem HGfe10_13_ok (gg port : Int) (hg0 : 0 ≤ gg) (hg1 : gg ≤ 4294967295) (hp0 : -9223372036854775808 ≤ port) (hp1 : port ≤ 9223372036854775807) (hc : HGfK10 gg port) : @EntOK (env (HGfv10 gg port)) Tryz.prog HGfe10_13 := by
  letI : Env := (env (HGfv10 gg port))
  obtain ⟨c0, c1, c2, c3, c4, c5, c6, c7, c8, c9, c10, c11, c12, c13, c14, c15, c16, c17, c18, c19, _⟩ := hc
  exact entShrV (k := .u32) (l := .u64) (a := gg) (c := (gg / 65536)) (s := 16) rfl rfl rfl (by decide) (by exact fdiv_nat _ 65536)
theorem HGfe10_14_ok (gg port : Int) (hg0 : 0 ≤ gg) (hg1 : gg ≤ 4294967295) (hp0 : -9223372036854775808 ≤ port) (hp1 : port ≤ 9223372036854775807) (hc : HGfK10 gg port) : @EntOK (env (HGfv10 gg port)) Tryz.prog HGfe10_14 := by
  letI : Env := (env (HGfv10 gg port))
  obtain ⟨c0, c1, c2, c3, c4, c5, c6, c7, c8, c9, c10, c11, c12, c13, c14, c15, c16, c17, c18, c19, _⟩ := hc
  exact entConvV (k := .u8) (l := .u32) (a := (gg / 65536)) (c := ((gg / 65536) % 256)) rfl rfl (by rw [IntKind.wrap_u8])
theorem HGfe10_15_ok (gg port : Int) (hg0 : 0 ≤ gg) (hg1 : gg ≤ 4294967295) (hp0 : -9223372036854775808 ≤ port) (hp1 : port ≤ 9223372036854775807) (hc : HGfK10 gg port) : @EntOK (env (HGfv10 gg port)) Tryz.prog HGfe10_15 := by
  letI : Env := (env (HGfv10 gg port))
  obtain ⟨c0, c1, c2, c3, c4, c5, c6, c7, c8, c9, c10, c11, c12, c13, c14, c15, c16, c17, c18, c19, _⟩ := hc
  exact entShrV (k := .u32) (l := .u64) (a := gg) (c := (gg / 256)) (s := 8) rfl rfl rfl (by decide) (by exact fdiv_nat _ 256)
theorem HGfe10_16_ok (gg port : Int) (hg0 : 0 ≤ gg) (hg1 : gg ≤ 4294967295) (hp0 : -9223372036854775808 ≤ port) (hp1 : port ≤ 9223372036854775807) (hc : HGfK10 gg port) : @EntOK (env (HGfv10 gg port)) Tryz.prog HGfe10_16 := by
  letI : Env := (env (HGfv10 gg port))
  obtain ⟨c0, c1, c2, c3, c4, c5, c6, c7, c8, c9, c10, c11, c12, c13, c14, c15, c16, c17, c18, c19, _⟩ := hc
  exact entConvV (k := .u8) (l := .u32) (a := (gg / 256)) (c := ((gg / 256) % 256)) rfl rfl (by rw [IntKind.wrap_u8])
theorem HGfe10_17_ok (gg port : Int) (hg0 : 0 ≤ gg) (hg1 : gg ≤ 4294967295) (hp0 : -9223372036854775808 ≤ port) (hp1 : port ≤ 9223372036854775807) (hc : HGfK10 gg port) : @EntOK (env (HGfv10 gg port)) Tryz.prog HGfe10_17 := by
  letI : Env := (env (HGfv10 gg port))
  obtain ⟨c0, c1, c2, c3, c4, c5, c6, c7, c8, c9, c10, c11, c12, c13, c14, c15, c16, c17, c18, c19, _⟩ := hc
  exact entConvV (k := .u8) (l := .u32) (a := gg) (c := (gg % 256)) rfl rfl (by rw [IntKind.wrap_u8])
theorem HGfe10_18_ok (gg port : Int) (hg0 : 0 ≤ gg) (hg1 : gg ≤ 4294967295) (hp0 : -9223372036854775808 ≤ port) (hp1 : port ≤ 9223372036854775807) (hc : HGfK10 gg port) : @EntOK (env (HGfv10 gg port)) Tryz.prog HGfe10_18 := by
  letI : Env := (env (HGfv10 gg port))
  obtain ⟨c0, c1, c2, c3, c4, c5, c6, c7, c8, c9, c10, c11, c12, c13, c14, c15, c16, c17, c18, c19, _⟩ := hc
  have bd0 := sumVal_bd true [10, 0, 0, 1, (gg / 16777216), ((gg / 65536) % 256), ((gg / 256) % 256), (gg % 256), 0, 17, 0, 9, 0, 5, (((port % 18446744073709551616) / 256) % 256), ((port % 18446744073709551616) % 256), 0, 9, 0, 0, 120] (by intro b hb; simp only [List.mem_cons, List.not_mem_nil, or_false] at hb; rcases hb with rfl | rfl | rfl | rfl | rfl | rfl | rfl | rfl | rfl | rfl | rfl | rfl | rfl | rfl | rfl | rfl | rfl | rfl | rfl | rfl | rfl <;> omega)
  exact entCmp (k := .i64) (a := (sumVal true [10, 0, 0, 1, (gg / 16777216), ((gg / 65536) % 256), ((gg / 256) % 256), (gg % 256), 0, 17, 0, 9, 0, 5, (((port % 18446744073709551616) / 256) % 256), ((port % 18446744073709551616) % 256), 0, 9, 0, 0, 120])) (b := 0) rfl rfl (by show some (((sumVal true [10, 0, 0, 1, (gg / 16777216), ((gg / 65536) % 256), ((gg / 256) % 256), (gg % 256), 0, 17, 0, 9, 0, 5, (((port % 18446744073709551616) / 256) % 256), ((port % 18446744073709551616) % 256), 0, 9, 0, 0, 120]) : Int) == 0) = some false; rw [beq_eq_false_iff_ne.2 (by first | omega | (simp only [sumVal, oct.sumF, oct.F, oct.ws]; omega) | (simp only [sumVal, oct.sumF, oct.F, oct.ws] at *; omega))])
theorem HGfe10_19_ok (gg port : Int) (hg0 : 0 ≤ gg) (hg1 : gg ≤ 4294967295) (hp0 : -9223372036854775808 ≤ port) (hp1 : port ≤ 9223372036854775807) (hc : HGfK10 gg port) : @EntOK (env (HGfv10 gg port)) Tryz.prog HGfe10_19 := by
  letI : Env := (env (HGfv10 gg port))
  obtain ⟨c0, c1, c2, c3, c4, c5, c6, c7, c8, c9, c10, c11, c12, c13, c14, c15, c16, c17, c18, c19, _⟩ := hc
  have bd0 := sumVal_bd true [10, 0, 0, 1, (gg / 16777216), ((gg / 65536) % 256), ((gg / 256) % 256), (gg % 256), 0, 17, 0, 9, 0, 5, (((port % 18446744073709551616) / 256) % 256), ((port % 18446744073709551616) % 256), 0, 9, 0, 0, 120] (by intro b hb; simp only [List.mem_cons, List.not_mem_nil, or_false] at hb; rcases hb with rfl | rfl | rfl | rfl | rfl | rfl | rfl | rfl | rfl | rfl | rfl | rfl | rfl | rfl | rfl | rfl | rfl | rfl | rfl | rfl | rfl <;> omega)
  exact entConvV (k := .u64) (l := .i64) (a := (sumVal true [10, 0, 0, 1, (gg / 16777216), ((gg / 65536) % 256), ((gg / 256) % 256), (gg % 256), 0, 17, 0, 9, 0, 5, (((port % 18446744073709551616) / 256) % 256), ((port % 18446744073709551616) % 256), 0, 9, 0, 0, 120])) (c := (sumVal true [10, 0, 0, 1, (gg / 16777216), ((gg / 65536) % 256), ((gg / 256) % 256), (gg % 256), 0, 17, 0, 9, 0, 5, (((port % 18446744073709551616) / 256) % 256), ((port % 18446744073709551616) % 256), 0, 9, 0, 0, 120])) rfl rfl (by rw [IntWalk.u64_in _ (by first | omega | (simp only [sumVal, oct.sumF, oct.F, oct.ws]; omega) | (simp only [sumVal, oct.sumF, oct.F, oct.ws] at *; omega))])
theorem HGfe10_20_ok (gg port : Int) (hg0 : 0 ≤ gg) (hg1 : gg ≤ 4294967295) (hp0 : -9223372036854775808 ≤ port) (hp1 : port ≤ 9223372036854775807) (hc : HGfK10 gg port) : @EntOK (env (HGfv10 gg port)) Tryz.prog HGfe10_20 := by
  letI : Env := (env (HGfv10 gg port))
  obtain ⟨c0, c1, c2, c3, c4, c5, c6, c7, c8, c9, c10, c11, c12, c13, c14, c15, c16, c17, c18, c19, _⟩ := hc
  have bd0 := sumVal_bd true [10, 0, 0, 1, (gg / 16777216), ((gg / 65536) % 256), ((gg / 256) % 256), (gg % 256), 0, 17, 0, 9, 0, 5, (((port % 18446744073709551616) / 256) % 256), ((port % 18446744073709551616) % 256), 0, 9, 0, 0, 120] (by intro b hb; simp only [List.mem_cons, List.not_mem_nil, or_false] at hb; rcases hb with rfl | rfl | rfl | rfl | rfl | rfl | rfl | rfl | rfl | rfl | rfl | rfl | rfl | rfl | rfl | rfl | rfl | rfl | rfl | rfl | rfl <;> omega)
  exact entShrV (k := .u64) (l := .u64) (a := (sumVal true [10, 0, 0, 1, (gg / 16777216), ((gg / 65536) % 256), ((gg / 256) % 256), (gg % 256), 0, 17, 0, 9, 0, 5, (((port % 18446744073709551616) / 256) % 256), ((port % 18446744073709551616) % 256), 0, 9, 0, 0, 120])) (c := ((sumVal true [10, 0, 0, 1, (gg / 16777216), ((gg / 65536) % 256), ((gg / 256) % 256), (gg % 256), 0, 17, 0, 9, 0, 5, (((port % 18446744073709551616) / 256) % 256), ((port % 18446744073709551616) % 256), 0, 9, 0, 0, 120]) / 256)) (s := 8) rfl rfl rfl (by decide) (by exact fdiv_nat _ 256)
theorem HGfe10_21_ok (gg port : Int) (hg0 : 0 ≤ gg) (hg1 : gg ≤ 4294967295) (hp0 : -9223372036854775808 ≤ port) (hp1 : port ≤ 9223372036854775807) (hc : HGfK10 gg port) : @EntOK (env (HGfv10 gg port)) Tryz.prog HGfe10_21 := by
  letI : Env := (env (HGfv10 gg port))
  obtain ⟨c0, c1, c2, c3, c4, c5, c6, c7, c8, c9, c10, c11, c12, c13, c14, c15, c16, c17, c18, c19, _⟩ := hc
  have bd0 := sumVal_bd true [10, 0, 0, 1, (gg / 16777216), ((gg / 65536) % 256), ((gg / 256) % 256), (gg % 256), 0, 17, 0, 9, 0, 5, (((port % 18446744073709551616) / 256) % 256), ((port % 18446744073709551616) % 256), 0, 9, 0, 0, 120] (by intro b hb; simp only [List.mem_cons, List.not_mem_nil, or_false] at hb; rcases hb with rfl | rfl | rfl | rfl | rfl | rfl | rfl | rfl | rfl | rfl | rfl | rfl | rfl | rfl | rfl | rfl | rfl | rfl | rfl | rfl | rfl <;> omega)
  exact entConvV (k := .u8) (l := .u64) (a := ((sumVal true [10, 0, 0, 1, (gg / 16777216), ((gg / 65536) % 256), ((gg / 256) % 256), (gg % 256), 0, 17, 0, 9, 0, 5, (((port % 18446744073709551616) / 256) % 256), ((port % 18446744073709551616) % 256), 0, 9, 0, 0, 120]) / 256)) (c := ((sumVal true [10, 0, 0, 1, (gg / 16777216), ((gg / 65536) % 256), ((gg / 256) % 256), (gg % 256), 0, 17, 0, 9, 0, 5, (((port % 18446744073709551616) / 256) % 256), ((port % 18446744073709551616) % 256), 0, 9, 0, 0, 120]) / 256)) rfl rfl (by rw [IntWalk.u8_in _ (by first | omega | (simp only [sumVal, oct.sumF, oct.F, oct.ws]; omega) | (simp only [sumVal, oct.sumF, oct.F, oct.ws] at *; omega))])
theorem HGfe10_22_ok (gg port : Int) (hg0 : 0 ≤ gg) (hg1 : gg ≤ 4294967295) (hp0 : -9223372036854775808 ≤ port) (hp1 : port ≤ 9223372036854775807) (hc : HGfK10 gg port) : @EntOK (env (HGfv10 gg port)) Tryz.prog HGfe10_22 := by
  letI : Env := (env (HGfv10 gg port))
  obtain ⟨c0, c1, c2, c3, c4, c5, c6, c7, c8, c9, c10, c11, c12, c13, c14, c15, c16, c17, c18, c19, _⟩ := hc
  have bd0 := sumVal_bd true [10, 0, 0, 1, (gg / 16777216), ((gg / 65536) % 256), ((gg / 256) % 256), (gg % 256), 0, 17, 0, 9, 0, 5, (((port % 18446744073709551616) / 256) % 256), ((port % 18446744073709551616) % 256), 0, 9, 0, 0, 120] (by intro b hb; simp only [List.mem_cons, List.not_mem_nil, or_false] at hb; rcases hb with rfl | rfl | rfl | rfl | rfl | rfl | rfl | rfl | rfl | rfl | rfl | rfl | rfl | rfl | rfl | rfl | rfl | rfl | rfl | rfl | rfl <;> omega)
  exact entConvV (k := .u8) (l := .u64) (a := (sumVal true [10, 0, 0, 1, (gg / 16777216), ((gg / 65536) % 256), ((gg / 256) % 256), (gg % 256), 0, 17, 0, 9, 0, 5, (((port % 18446744073709551616) / 256) % 256), ((port % 18446744073709551616) % 256), 0, 9, 0, 0, 120])) (c := ((sumVal true [10, 0, 0, 1, (gg / 16777216), ((gg / 65536) % 256), ((gg / 256) % 256), (gg % 256), 0, 17, 0, 9, 0, 5, (((port % 18446744073709551616) / 256) % 256), ((port % 18446744073709551616) % 256), 0, 9, 0, 0, 120]) % 256)) rfl rfl (by rw [IntKind.wrap_u8])
theorem HGfe10_23_ok (gg port : Int) (hg0 : 0 ≤ gg) (hg1 : gg ≤ 4294967295) (hp0 : -9223372036854775808 ≤ port) (hp1 : port ≤ 9223372036854775807) (hc : HGfK10 gg port) : @EntOK (env (HGfv10 gg port)) Tryz.prog HGfe10_23 := by
  letI : Env := (env (HGfv10 gg port))
  obtain ⟨c0, c1, c2, c3, c4, c5, c6, c7, c8, c9, c10, c11, c12, c13, c14, c15, c16, c17, c18, c19, _⟩ := hc
  have bd1 := sumVal_bd true [69, 0, 0, 29, 0, 1, 0, 0, 64, 17, 0, 0, 10, 0, 0, 1, (gg / 16777216), ((gg / 65536) % 256), ((gg / 256) % 256), (gg % 256)] (by intro b hb; simp only [List.mem_cons, List.not_mem_nil, or_false] at hb; rcases hb with rfl | rfl | rfl | rfl | rfl | rfl | rfl | rfl | rfl | rfl | rfl | rfl | rfl | rfl | rfl | rfl | rfl | rfl | rfl | rfl <;> omega)
  exact entConvV (k := .u64) (l := .i64) (a := (sumVal true [69, 0, 0, 29, 0, 1, 0, 0, 64, 17, 0, 0, 10, 0, 0, 1, (gg / 16777216), ((gg / 65536) % 256), ((gg / 256) % 256), (gg % 256)])) (c := (sumVal true [69, 0, 0, 29, 0, 1, 0, 0, 64, 17, 0, 0, 10, 0, 0, 1, (gg / 16777216), ((gg / 65536) % 256), ((gg / 256) % 256), (gg % 256)])) rfl rfl (by rw [IntWalk.u64_in _ (by first | omega | (simp only [sumVal, oct.sumF, oct.F, oct.ws]; omega) | (simp only [sumVal, oct.sumF, oct.F, oct.ws] at *; omega))])
theorem HGfe10_24_ok (gg port : Int) (hg0 : 0 ≤ gg) (hg1 : gg ≤ 4294967295) (hp0 : -9223372036854775808 ≤ port) (hp1 : port ≤ 9223372036854775807) (hc : HGfK10 gg port) : @EntOK (env (HGfv10 gg port)) Tryz.prog HGfe10_24 := by
  letI : Env := (env (HGfv10 gg port))
  obtain ⟨c0, c1, c2, c3, c4, c5, c6, c7, c8, c9, c10, c11, c12, c13, c14, c15, c16, c17, c18, c19, _⟩ := hc
  have bd1 := sumVal_bd true [69, 0, 0, 29, 0, 1, 0, 0, 64, 17, 0, 0, 10, 0, 0, 1, (gg / 16777216), ((gg / 65536) % 256), ((gg / 256) % 256), (gg % 256)] (by intro b hb; simp only [List.mem_cons, List.not_mem_nil, or_false] at hb; rcases hb with rfl | rfl | rfl | rfl | rfl | rfl | rfl | rfl | rfl | rfl | rfl | rfl | rfl | rfl | rfl | rfl | rfl | rfl | rfl | rfl <;> omega)
  exact entShrV (k := .u64) (l := .u64) (a := (sumVal true [69, 0, 0, 29, 0, 1, 0, 0, 64, 17, 0, 0, 10, 0, 0, 1, (gg / 16777216), ((gg / 65536) % 256), ((gg / 256) % 256), (gg % 256)])) (c := ((sumVal true [69, 0, 0, 29, 0, 1, 0, 0, 64, 17, 0, 0, 10, 0, 0, 1, (gg / 16777216), ((gg / 65536) % 256), ((gg / 256) % 256), (gg % 256)]) / 256)) (s := 8) rfl rfl rfl (by decide) (by exact fdiv_nat _ 256)
theorem HGfe10_25_ok (gg port : Int) (hg0 : 0 ≤ gg) (hg1 : gg ≤ 4294967295) (hp0 : -9223372036854775808 ≤ port) (hp1 : port ≤ 9223372036854775807) (hc : HGfK10 gg port) : @EntOK (env (HGfv10 gg port)) Tryz.prog HGfe10_25 := by
  letI : Env := (env (HGfv10 gg port))
  obtain ⟨c0, c1, c2, c3, c4, c5, c6, c7, c8, c9, c10, c11, c12, c13, c14, c15, c16, c17, c18, c19, _⟩ := hc
  have bd1 := sumVal_bd true [69, 0, 0, 29, 0, 1, 0, 0, 64, 17, 0, 0, 10, 0, 0, 1, (gg / 16777216), ((gg / 65536) % 256), ((gg / 256) % 256), (gg % 256)] (by intro b hb; simp only [List.mem_cons, List.not_mem_nil, or_false] at hb; rcases hb with rfl | rfl | rfl | rfl | rfl | rfl | rfl | rfl | rfl | rfl | rfl | rfl | rfl | rfl | rfl | rfl | rfl | rfl | rfl | rfl <;> omega)
  exact entConvV (k := .u8) (l := .u64) (a := ((sumVal true [69, 0, 0, 29, 0, 1, 0, 0, 64, 17, 0, 0, 10, 0, 0, 1, (gg / 16777216), ((gg / 65536) % 256), ((gg / 256) % 256), (gg % 256)]) / 256)) (c := ((sumVal true [69, 0, 0, 29, 0, 1, 0, 0, 64, 17, 0, 0, 10, 0, 0, 1, (gg / 16777216), ((gg / 65536) % 256), ((gg / 256) % 256), (gg % 256)]) / 256)) rfl rfl (by rw [IntWalk.u8_in _ (by first | omega | (simp only [sumVal, oct.sumF, oct.F, oct.ws]; omega) | (simp only [sumVal, oct.sumF, oct.F, oct.ws] at *; omega))])
theorem HGfe10_26_ok (gg port : Int) (hg0 : 0 ≤ gg) (hg1 : gg ≤ 4294967295) (hp0 : -9223372036854775808 ≤ port) (hp1 : port ≤ 9223372036854775807) (hc : HGfK10 gg port) : @EntOK (env (HGfv10 gg port)) Tryz.prog HGfe10_26 := by
  letI : Env := (env (HGfv10 gg port))
  obtain ⟨c0, c1, c2, c3, c4, c5, c6, c7, c8, c9, c10, c11, c12, c13, c14, c15, c16, c17, c18, c19, _⟩ := hc
  have bd1 := sumVal_bd true [69, 0, 0, 29, 0, 1, 0, 0, 64, 17, 0, 0, 10, 0, 0, 1, (gg / 16777216), ((gg / 65536) % 256), ((gg / 256) % 256), (gg % 256)] (by intro b hb; simp only [List.mem_cons, List.not_mem_nil, or_false] at hb; rcases hb with rfl | rfl | rfl | rfl | rfl | rfl | rfl | rfl | rfl | rfl | rfl | rfl | rfl | rfl | rfl | rfl | rfl | rfl | rfl | rfl <;> omega)
  exact entConvV (k := .u8) (l := .u64) (a := (sumVal true [69, 0, 0, 29, 0, 1, 0, 0, 64, 17, 0, 0, 10, 0, 0, 1, (gg / 16777216), ((gg / 65536) % 256), ((gg / 256) % 256), (gg % 256)])) (c := ((sumVal true [69, 0, 0, 29, 0, 1, 0, 0, 64, 17, 0, 0, 10, 0, 0, 1, (gg / 16777216), ((gg / 65536) % 256), ((gg / 256) % 256), (gg % 256)]) % 256)) rfl rfl (by rw [IntKind.wrap_u8])
theorem HGfe10_27_ok (gg port : Int) (hg0 : 0 ≤ gg) (hg1 : gg ≤ 4294967295) (hp0 : -9223372036854775808 ≤ port) (hp1 : port ≤ 9223372036854775807) (hc : HGfK10 gg port) : @EntOK (env (HGfv10 gg port)) Tryz.prog HGfe10_27 := by
  letI : Env := (env (HGfv10 gg port))
  obtain ⟨c0, c1, c2, c3, c4, c5, c6, c7, c8, c9, c10, c11, c12, c13, c14, c15, c16, c17, c18, c19, _⟩ := hc
  exact entCmp (k := .u32) (a := gg) (b := 167772161) rfl rfl (by show some ((gg : Int) == 167772161) = some false; rw [beq_eq_false_iff_ne.2 (by first | omega | (simp only [sumVal, oct.sumF, oct.F, oct.ws]; omega) | (simp only [sumVal, oct.sumF, oct.F, oct.ws] at *; omega))])
theorem HGfe10_28_ok (gg port : Int) (hg0 : 0 ≤ gg) (hg1 : gg ≤ 4294967295) (hp0 : -9223372036854775808 ≤ port) (hp1 : port ≤ 9223372036854775807) (hc : HGfK10 gg port) : @EntOK (env (HGfv10 gg port)) Tryz.prog HGfe10_28 := by
  letI : Env := (env (HGfv10 gg port))
  obtain ⟨c0, c1, c2, c3, c4, c5, c6, c7, c8, c9, c10, c11, c12, c13, c14, c15, c16, c17, c18, c19, _⟩ := hc
  exact entCmp (k := .u32) (a := gg) (b := 4294967295) rfl rfl (by show some ((gg : Int) == 4294967295) = some false; rw [beq_eq_false_iff_ne.2 (by first | omega | (simp only [sumVal, oct.sumF, oct.F, oct.ws]; omega) | (simp only [sumVal, oct.sumF, oct.F, oct.ws] at *; omega))])
theorem HGfe10_29_ok (gg port : Int) (hg0 : 0 ≤ gg) (hg1 : gg ≤ 4294967295) (hp0 : -9223372036854775808 ≤ port) (hp1 : port ≤ 9223372036854775807) (hc : HGfK10 gg port) : @EntOK (env (HGfv10 gg port)) Tryz.prog HGfe10_29 := by
  letI : Env := (env (HGfv10 gg port))
  obtain ⟨c0, c1, c2, c3, c4, c5, c6, c7, c8, c9, c10, c11, c12, c13, c14, c15, c16, c17, c18, c19, _⟩ := hc
  exact entCmp (k := .u32) (a := gg) (b := 167772415) rfl rfl (by show some ((gg : Int) == 167772415) = some false; rw [beq_eq_false_iff_ne.2 (by first | omega | (simp only [sumVal, oct.sumF, oct.F, oct.ws]; omega) | (simp only [sumVal, oct.sumF, oct.F, oct.ws] at *; omega))])
theorem HGfe10_30_ok (gg port : Int) (hg0 : 0 ≤ gg) (hg1 : gg ≤ 4294967295) (hp0 : -9223372036854775808 ≤ port) (hp1 : port ≤ 9223372036854775807) (hc : HGfK10 gg port) : @EntOK (env (HGfv10 gg port)) Tryz.prog HGfe10_30 := by
  letI : Env := (env (HGfv10 gg port))
  obtain ⟨c0, c1, c2, c3, c4, c5, c6, c7, c8, c9, c10, c11, c12, c13, c14, c15, c16, c17, c18, c19, _⟩ := hc
  exact entCmp (k := .u32) (a := gg) (b := 3758096384) rfl rfl (by show some (decide ((gg : Int) ≥ 3758096384)) = some true; rw [decide_eq_true (by first | omega | (simp only [sumVal, oct.sumF, oct.F, oct.ws]; omega) | (simp only [sumVal, oct.sumF, oct.F, oct.ws] at *; omega))])
theorem HGfe10_31_ok (gg port : Int) (hg0 : 0 ≤ gg) (hg1 : gg ≤ 4294967295) (hp0 : -9223372036854775808 ≤ port) (hp1 : port ≤ 9223372036854775807) (hc : HGfK10 gg port) : @EntOK (env (HGfv10 gg port)) Tryz.prog HGfe10_31 := by
  letI : Env := (env (HGfv10 gg port))
  obtain ⟨c0, c1, c2, c3, c4, c5, c6, c7, c8, c9, c10, c11, c12, c13, c14, c15, c16, c17, c18, c19, _⟩ := hc
  exact entCmp (k := .u32) (a := gg) (b := 4026531840) rfl rfl (by show some (decide ((gg : Int) < 4026531840)) = some true; rw [decide_eq_true (by first | omega | (simp only [sumVal, oct.sumF, oct.F, oct.ws]; omega) | (simp only [sumVal, oct.sumF, oct.F, oct.ws] at *; omega))])
theorem HGfe10_32_ok (gg port : Int) (hg0 : 0 ≤ gg) (hg1 : gg ≤ 4294967295) (hp0 : -9223372036854775808 ≤ port) (hp1 : port ≤ 9223372036854775807) (hc : HGfK10 gg port) : @EntOK (env (HGfv10 gg port)) Tryz.prog HGfe10_32 := by
  letI : Env := (env (HGfv10 gg port))
  obtain ⟨c0, c1, c2, c3, c4, c5, c6, c7, c8, c9, c10, c11, c12, c13, c14, c15, c16, c17, c18, c19, _⟩ := hc
  exact entAnd (k := .u8) (a := ((gg / 65536) % 256)) (b := 127) rfl rfl rfl
theorem HGfe10_33_ok (gg port : Int) (hg0 : 0 ≤ gg) (hg1 : gg ≤ 4294967295) (hp0 : -9223372036854775808 ≤ port) (hp1 : port ≤ 9223372036854775807) (hc : HGfK10 gg port) : @EntOK (env (HGfv10 gg port)) Tryz.prog HGfe10_33 := by
  letI : Env := (env (HGfv10 gg port))
  obtain ⟨c0, c1, c2, c3, c4, c5, c6, c7, c8, c9, c10, c11, c12, c13, c14, c15, c16, c17, c18, c19, _⟩ := hc
  exact ⟨by intro v hv; simp only [List.mem_cons, List.not_mem_nil, or_false] at hv; rcases hv with rfl | rfl | rfl | rfl | rfl | rfl <;> first | exact .inl ⟨_, _, rfl⟩ | exact .inr ⟨_, rfl⟩, by intro v hv; simp only [List.mem_cons, List.not_mem_nil, or_false] at hv; rcases hv with rfl | rfl | rfl | rfl | rfl | rfl <;> first | exact .inl ⟨_, _, rfl⟩ | exact .inr ⟨_, rfl⟩, by intro a1 a2 w; have e0 : ¬ (1 = 2) := (by first | omega | (simp only [sumVal, oct.sumF, oct.F, oct.ws]; omega) | (simp only [sumVal, oct.sumF, oct.F, oct.ws] at *; omega)); (refine eqMACd _ _ _ _ _ _ _ _ _ _ _ _ _ ?_ a1 a2 w; first | exact decide_eq_true (by omega) | exact decide_eq_false (by omega))⟩
theorem HGfe10_34_ok (gg port : Int) (hg0 : 0 ≤ gg) (hg1 : gg ≤ 4294967295) (hp0 : -9223372036854775808 ≤ port) (hp1 : port ≤ 9223372036854775807) (hc : HGfK10 gg port) : @EntOK (env (HGfv10 gg port)) Tryz.prog HGfe10_34 := by
  letI : Env := (env (HGfv10 gg port))
  obtain ⟨c0, c1, c2, c3, c4, c5, c6, c7, c8, c9, c10, c11, c12, c13, c14, c15, c16, c17, c18, c19, _⟩ := hc
  exact ⟨by intro v hv; simp only [List.mem_cons, List.not_mem_nil, or_false] at hv; rcases hv with rfl | rfl | rfl | rfl | rfl | rfl <;> first | exact .inl ⟨_, _, rfl⟩ | exact .inr ⟨_, rfl⟩, by intro v hv; simp only [List.mem_cons, List.not_mem_nil, or_false] at hv; rcases hv with rfl | rfl | rfl | rfl | rfl | rfl <;> first | exact .inl ⟨_, _, rfl⟩ | exact .inr ⟨_, rfl⟩, by intro a1 a2 w; have e0 : ¬ (1 = 255) := (by first | omega | (simp only [sumVal, oct.sumF, oct.F, oct.ws]; omega) | (simp only [sumVal, oct.sumF, oct.F, oct.ws] at *; omega)); (refine eqMACd _ _ _ _ _ _ _ _ _ _ _ _ _ ?_ a1 a2 w; first | exact decide_eq_true (by omega) | exact decide_eq_false (by omega))⟩
theorem HGfe10_35_ok (gg port : Int) (hg0 : 0 ≤ gg) (hg1 : gg ≤ 4294967295) (hp0 : -9223372036854775808 ≤ port) (hp1 : port ≤ 9223372036854775807) (hc : HGfK10 gg port) : @EntOK (env (HGfv10 gg port)) Tryz.prog HGfe10_35 := by
  letI : Env := (env (HGfv10 gg port))
  obtain ⟨c0, c1, c2, c3, c4, c5, c6, c7, c8, c9, c10, c11, c12, c13, c14, c15, c16, c17, c18, c19, _⟩ := hc
  exact ⟨by intro v hv; simp only [List.mem_cons, List.not_mem_nil, or_false] at hv; rcases hv with rfl | rfl | rfl | rfl | rfl | rfl <;> first | exact .inl ⟨_, _, rfl⟩ | exact .inr ⟨_, rfl⟩, by intro v hv; simp only [List.mem_cons, List.not_mem_nil, or_false] at hv; rcases hv with rfl | rfl | rfl | rfl | rfl | rfl <;> first | exact .inl ⟨_, _, rfl⟩ | exact .inr ⟨_, rfl⟩, by intro a1 a2 w; have e0 : (band .u8 ((gg / 65536) % 256) 127) = 0 := (by first | omega | (simp only [sumVal, oct.sumF, oct.F, oct.ws]; omega) | (simp only [sumVal, oct.sumF, oct.F, oct.ws] at *; omega)); have e1 : ((gg / 256) % 256) = 0 := (by first | omega | (simp only [sumVal, oct.sumF, oct.F, oct.ws]; omega) | (simp only [sumVal, oct.sumF, oct.F, oct.ws] at *; omega)); have e2 : (gg % 256) = 1 := (by first | omega | (simp only [sumVal, oct.sumF, oct.F, oct.ws]; omega) | (simp only [sumVal, oct.sumF, oct.F, oct.ws] at *; omega)); (refine eqMACd _ _ _ _ _ _ _ _ _ _ _ _ _ ?_ a1 a2 w; first | exact decide_eq_true (by omega) | exact decide_eq_false (by omega))⟩
theorem HGfe10_36_ok (gg port : Int) (hg0 : 0 ≤ gg) (hg1 : gg ≤ 4294967295) (hp0 : -9223372036854775808 ≤ port) (hp1 : port ≤ 9223372036854775807) (hc : HGfK10 gg port) : @EntOK (env (HGfv10 gg port)) Tryz.prog HGfe10_36 := by
  letI : Env := (env (HGfv10 gg port))
  obtain ⟨c0, c1, c2, c3, c4, c5, c6, c7, c8, c9, c10, c11, c12, c13, c14, c15, c16, c17, c18, c19, _⟩ := hc
  have bd1 := sumVal_bd true [69, 0, 0, 29, 0, 1, 0, 0, 64, 17, 0, 0, 10, 0, 0, 1, (gg / 16777216), ((gg / 65536) % 256), ((gg / 256) % 256), (gg % 256)] (by intro b hb; simp only [List.mem_cons, List.not_mem_nil, or_false] at hb; rcases hb with rfl | rfl | rfl | rfl | rfl | rfl | rfl | rfl | rfl | rfl | rfl | rfl | rfl | rfl | rfl | rfl | rfl | rfl | rfl | rfl <;> omega)
  have bd2 := sumVal_bd true [69, 0, 0, 29, 0, 1, 0, 0, 64, 17, ((sumVal true [69, 0, 0, 29, 0, 1, 0, 0, 64, 17, 0, 0, 10, 0, 0, 1, (gg / 16777216), ((gg / 65536) % 256), ((gg / 256) % 256), (gg % 256)]) / 256), ((sumVal true [69, 0, 0, 29, 0, 1, 0, 0, 64, 17, 0, 0, 10, 0, 0, 1, (gg / 16777216), ((gg / 65536) % 256), ((gg / 256) % 256), (gg % 256)]) % 256), 10, 0, 0, 1, (gg / 16777216), ((gg / 65536) % 256), ((gg / 256) % 256), (gg % 256)] (by intro b hb; simp only [List.mem_cons, List.not_mem_nil, or_false] at hb; rcases hb with rfl | rfl | rfl | rfl | rfl | rfl | rfl | rfl | rfl | rfl | rfl | rfl | rfl | rfl | rfl | rfl | rfl | rfl | rfl | rfl <;> omega)
  exact entCmp (k := .i64) (a := (sumVal true [69, 0, 0, 29, 0, 1, 0, 0, 64, 17, ((sumVal true [69, 0, 0, 29, 0, 1, 0, 0, 64, 17, 0, 0, 10, 0, 0, 1, (gg / 16777216), ((gg / 65536) % 256), ((gg / 256) % 256), (gg % 256)]) / 256), ((sumVal true [69, 0, 0, 29, 0, 1, 0, 0, 64, 17, 0, 0, 10, 0, 0, 1, (gg / 16777216), ((gg / 65536) % 256), ((gg / 256) % 256), (gg % 256)]) % 256), 10, 0, 0, 1, (gg / 16777216), ((gg / 65536) % 256), ((gg / 256) % 256), (gg % 256)])) (b := 0) rfl rfl (by show some (((sumVal true [69, 0, 0, 29, 0, 1, 0, 0, 64, 17, ((sumVal true [69, 0, 0, 29, 0, 1, 0, 0, 64, 17, 0, 0, 10, 0, 0, 1, (gg / 16777216), ((gg / 65536) % 256), ((gg / 256) % 256), (gg % 256)]) / 256), ((sumVal true [69, 0, 0, 29, 0, 1, 0, 0, 64, 17, 0, 0, 10, 0, 0, 1, (gg / 16777216), ((gg / 65536) % 256), ((gg / 256) % 256), (gg % 256)]) % 256), 10, 0, 0, 1, (gg / 16777216), ((gg / 65536) % 256), ((gg / 256) % 256), (gg % 256)]) : Int) != 0) = some false; rw [bne_eq_false_iff_eq.2 (by first | omega | (simp only [sumVal, oct.sumF, oct.F, oct.ws]; omega) | (simp only [sumVal, oct.sumF, oct.F, oct.ws] at *; omega))])
theorem HGfe10_37_ok (gg port : Int) (hg0 : 0 ≤ gg) (hg1 : gg ≤ 4294967295) (hp0 : -9223372036854775808 ≤ port) (hp1 : port ≤ 9223372036854775807) (hc : HGfK10 gg port) : @EntOK (env (HGfv10 gg port)) Tryz.prog HGfe10_37 := by
  letI : Env := (env (HGfv10 gg port))
  obtain ⟨c0, c1, c2, c3, c4, c5, c6, c7, c8, c9, c10, c11, c12, c13, c14, c15, c16, c17, c18, c19, _⟩ := hc
  have bd1 := sumVal_bd true [69, 0, 0, 29, 0, 1, 0, 0, 64, 17, 0, 0, 10, 0, 0, 1, (gg / 16777216), ((gg / 65536) % 256), ((gg / 256) % 256), (gg % 256)] (by intro b hb; simp only [List.mem_cons, List.not_mem_nil, or_false] at hb; rcases hb with rfl | rfl | rfl | rfl | rfl | rfl | rfl | rfl | rfl | rfl | rfl | rfl | rfl | rfl | rfl | rfl | rfl | rfl | rfl | rfl <;> omega)
  exact entConvV (k := .u32) (l := .u8) (a := ((sumVal true [69, 0, 0, 29, 0, 1, 0, 0, 64, 17, 0, 0, 10, 0, 0, 1, (gg / 16777216), ((gg / 65536) % 256), ((gg / 256) % 256), (gg % 256)]) / 256)) (c := ((sumVal true [69, 0, 0, 29, 0, 1, 0, 0, 64, 17, 0, 0, 10, 0, 0, 1, (gg / 16777216), ((gg / 65536) % 256), ((gg / 256) % 256), (gg % 256)]) / 256)) rfl rfl (by rw [IntWalk.u32_in _ (by first | omega | (simp only [sumVal, oct.sumF, oct.F, oct.ws]; omega) | (simp only [sumVal, oct.sumF, oct.F, oct.ws] at *; omega))])
end Go.Proofs.YtjehddcgbgfhdaaGreat.ev
