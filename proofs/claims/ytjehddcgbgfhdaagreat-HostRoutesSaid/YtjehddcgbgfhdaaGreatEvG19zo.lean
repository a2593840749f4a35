/-
  HostRoutes, by a run of each path over an address that is not looked into. Conditions: none.
-/
import Derived.Test.YtjehddcgbgfhdaaGreatEvP19s
import Derived.Test.YtjehddcgbgfhdaaGreatAnt
import Derived.Test.YtjehddcgbgfhdaaGreatEvBd
import Derived.Test.YtjehddcgbgfhdaaGreatEvY
import Derived.KernelRfl
import Derived.DeepKeys
namespace Go.Proofs.YtjehddcgbgfhdaaGreat.ev
set_option maxRecDepth 1000000
set_option maxHeartbeats 4000000
set_option linter.unusedVariables false
set_option linter.unusedSimpArgs false
abbrev hzV (to : Int) : Env := env [.int .u32 to, .int .u32 (to / 256 * 256), .int .u32 (to / 16777216), .int .u8 (to / 16777216), .int .u32 (to / 65536), .int .u8 ((to / 65536) % 256), .int .u32 (to / 256), .int .u8 ((to / 256) % 256), .int .u8 (to % 256), .int .i64 (sumVal true [10, 0, 0, 1, (to / 16777216), ((to / 65536) % 256), ((to / 256) % 256), (to % 256), 0, 17, 0, 9, 0, 5, 0, 6, 0, 9, 0, 0, 120]), .int .i64 (sumVal true [69, 0, 0, 29, 0, 1, 0, 0, 64, 17, 0, 0, 10, 0, 0, 1, (to / 16777216), ((to / 65536) % 256), ((to / 256) % 256), (to % 256)]), .int .u64 (sumVal true [69, 0, 0, 29, 0, 1, 0, 0, 64, 17, 0, 0, 10, 0, 0, 1, (to / 16777216), ((to / 65536) % 256), ((to / 256) % 256), (to % 256)]), .int .u64 ((sumVal true [69, 0, 0, 29, 0, 1, 0, 0, 64, 17, 0, 0, 10, 0, 0, 1, (to / 16777216), ((to / 65536) % 256), ((to / 256) % 256), (to % 256)]) / 256), .int .u8 ((sumVal true [69, 0, 0, 29, 0, 1, 0, 0, 64, 17, 0, 0, 10, 0, 0, 1, (to / 16777216), ((to / 65536) % 256), ((to / 256) % 256), (to % 256)]) / 256), .int .u8 ((sumVal true [69, 0, 0, 29, 0, 1, 0, 0, 64, 17, 0, 0, 10, 0, 0, 1, (to / 16777216), ((to / 65536) % 256), ((to / 256) % 256), (to % 256)]) % 256), .int .u32 (to / 2147483648), .int .u32 ((to / 2147483648) % 2), .int .u32 (to / 1073741824), .int .u32 ((to / 1073741824) % 2), .int .u32 (to / 536870912), .int .u32 ((to / 536870912) % 2), .int .u32 (to / 268435456), .int .u32 ((to / 268435456) % 2), .int .u32 (to / 134217728), .int .u32 ((to / 134217728) % 2), .int .u32 (to / 67108864), .int .u32 ((to / 67108864) % 2), .int .u32 (to / 33554432), .int .u32 ((to / 33554432) % 2), .int .u32 (to / 16777216), .int .u32 ((to / 16777216) % 2), .int .u32 (to / 8388608), .int .u32 ((to / 8388608) % 2), .int .u32 (to / 4194304), .int .u32 ((to / 4194304) % 2), .int .u32 (to / 2097152), .int .u32 ((to / 2097152) % 2), .int .u32 (to / 1048576), .int .u32 ((to / 1048576) % 2), .int .u32 (to / 524288), .int .u32 ((to / 524288) % 2), .int .u32 (to / 262144), .int .u32 ((to / 262144) % 2), .int .u32 (to / 131072), .int .u32 ((to / 131072) % 2), .int .u32 (to / 65536), .int .u32 ((to / 65536) % 2), .int .u32 (to / 32768), .int .u32 ((to / 32768) % 2), .int .u32 (to / 16384), .int .u32 ((to / 16384) % 2)]
abbrev hzPL : List PEnt := [⟨true, [.int .u8 10, .int .u8 0, .int .u8 0, .int .u8 1, .chan (some 3), .chan (some 5), .chan (some 7), .chan (some 8), .int .u8 0, .int .u8 17, .int .u8 0, .int .u8 9, .int .u8 0, .int .u8 5, .int .u8 0, .int .u8 6, .int .u8 0, .int .u8 9, .int .u8 0, .int .u8 0, .int .u8 120], .chan (some 9)⟩, ⟨true, [.int .u8 69, .int .u8 0, .int .u8 0, .int .u8 29, .int .u8 0, .int .u8 1, .int .u8 0, .int .u8 0, .int .u8 64, .int .u8 17, .int .u8 0, .int .u8 0, .int .u8 10, .int .u8 0, .int .u8 0, .int .u8 1, .chan (some 3), .chan (some 5), .chan (some 7), .chan (some 8)], .chan (some 10)⟩]
theorem hzPL_ok (to : Int) (ht0 : 0 ≤ to) (ht1 : to ≤ 4294967295) : ∀ e ∈ hzPL, @PEntOK (hzV to) e := by
  letI : Env := hzV to
  intro e he
  simp only [hzPL, List.mem_cons, List.not_mem_nil, or_false] at he
  rcases he with rfl | rfl
  · exact ⟨[10, 0, 0, 1, (to / 16777216), ((to / 65536) % 256), ((to / 256) % 256), (to % 256), 0, 17, 0, 9, 0, 5, 0, 6, 0, 9, 0, 0, 120], rfl, by intro b hb; simp only [List.mem_cons, List.not_mem_nil, or_false] at hb; rcases hb with rfl | rfl | rfl | rfl | rfl | rfl | rfl | rfl | rfl | rfl | rfl | rfl | rfl | rfl | rfl | rfl | rfl | rfl | rfl | rfl | rfl <;> omega, by intro v hv; simp only [List.mem_cons, List.not_mem_nil, or_false] at hv; rcases hv with rfl | rfl | rfl | rfl | rfl | rfl | rfl | rfl | rfl | rfl | rfl | rfl | rfl | rfl | rfl | rfl | rfl | rfl | rfl | rfl | rfl <;> exact ⟨_, _, rfl⟩, .inr (.inl ⟨_, rfl, _, _, rfl⟩), rfl⟩
  · exact ⟨[69, 0, 0, 29, 0, 1, 0, 0, 64, 17, 0, 0, 10, 0, 0, 1, (to / 16777216), ((to / 65536) % 256), ((to / 256) % 256), (to % 256)], rfl, by intro b hb; simp only [List.mem_cons, List.not_mem_nil, or_false] at hb; rcases hb with rfl | rfl | rfl | rfl | rfl | rfl | rfl | rfl | rfl | rfl | rfl | rfl | rfl | rfl | rfl | rfl | rfl | rfl | rfl | rfl <;> omega, by intro v hv; simp only [List.mem_cons, List.not_mem_nil, or_false] at hv; rcases hv with rfl | rfl | rfl | rfl | rfl | rfl | rfl | rfl | rfl | rfl | rfl | rfl | rfl | rfl | rfl | rfl | rfl | rfl | rfl | rfl <;> exact ⟨_, _, rfl⟩, .inr (.inl ⟨_, rfl, _, _, rfl⟩), rfl⟩
abbrev hzG : List Ent := [.bin .andNot (.chan (some 0)) (.int .u32 255) (.chan (some 1)), .bin .shr (.chan (some 0)) (.int .u64 24) (.chan (some 2)), .conv .u8 (.chan (some 2)) (.chan (some 3)), .bin .shr (.chan (some 0)) (.int .u64 16) (.chan (some 4)), .conv .u8 (.chan (some 4)) (.chan (some 5)), .bin .shr (.chan (some 0)) (.int .u64 8) (.chan (some 6)), .conv .u8 (.chan (some 6)) (.chan (some 7)), .conv .u8 (.chan (some 0)) (.chan (some 8)), .conv .u64 (.chan (some 10)) (.chan (some 11)), .bin .shr (.chan (some 11)) (.int .u64 8) (.chan (some 12)), .conv .u8 (.chan (some 12)) (.chan (some 13)), .conv .u8 (.chan (some 11)) (.chan (some 14)), .bin .shr (.chan (some 0)) (.int .i64 31) (.chan (some 15)), .bin .shr (.chan (some 0)) (.int .i64 30) (.chan (some 17)), .bin .shr (.chan (some 0)) (.int .i64 29) (.chan (some 19)), .bin .shr (.chan (some 0)) (.int .i64 28) (.chan (some 21)), .bin .shr (.chan (some 0)) (.int .i64 27) (.chan (some 23)), .bin .shr (.chan (some 0)) (.int .i64 26) (.chan (some 25)), .bin .shr (.chan (some 0)) (.int .i64 25) (.chan (some 27)), .bin .shr (.chan (some 0)) (.int .i64 24) (.chan (some 29)), .bin .shr (.chan (some 0)) (.int .i64 23) (.chan (some 31)), .bin .shr (.chan (some 0)) (.int .i64 22) (.chan (some 33)), .bin .shr (.chan (some 0)) (.int .i64 21) (.chan (some 35)), .bin .shr (.chan (some 0)) (.int .i64 20) (.chan (some 37)), .bin .shr (.chan (some 0)) (.int .i64 19) (.chan (some 39)), .bin .shr (.chan (some 0)) (.int .i64 18) (.chan (some 41)), .bin .shr (.chan (some 0)) (.int .i64 17) (.chan (some 43)), .bin .shr (.chan (some 0)) (.int .i64 16) (.chan (some 45)), .bin .shr (.chan (some 0)) (.int .i64 15) (.chan (some 47)), .bin .shr (.chan (some 0)) (.int .i64 14) (.chan (some 49))]
theorem hzG_ok (to : Int) (ht0 : 0 ≤ to) (ht1 : to ≤ 4294967295) : ∀ e ∈ hzG, @EntOK (hzV to) Tryz.prog e := by
  letI : Env := hzV to
  have bd0 := sumVal_bd true [10, 0, 0, 1, (to / 16777216), ((to / 65536) % 256), ((to / 256) % 256), (to % 256), 0, 17, 0, 9, 0, 5, 0, 6, 0, 9, 0, 0, 120] (by intro b hb; simp only [List.mem_cons, List.not_mem_nil, or_false] at hb; rcases hb with rfl | rfl | rfl | rfl | rfl | rfl | rfl | rfl | rfl | rfl | rfl | rfl | rfl | rfl | rfl | rfl | rfl | rfl | rfl | rfl | rfl <;> omega)
  have bd1 := sumVal_bd true [69, 0, 0, 29, 0, 1, 0, 0, 64, 17, 0, 0, 10, 0, 0, 1, (to / 16777216), ((to / 65536) % 256), ((to / 256) % 256), (to % 256)] (by intro b hb; simp only [List.mem_cons, List.not_mem_nil, or_false] at hb; rcases hb with rfl | rfl | rfl | rfl | rfl | rfl | rfl | rfl | rfl | rfl | rfl | rfl | rfl | rfl | rfl | rfl | rfl | rfl | rfl | rfl <;> omega)
  intro e he
  simp only [hzG, List.mem_cons, List.not_mem_nil, or_false] at he
  rcases he with rfl | rfl | rfl | rfl | rfl | rfl | rfl | rfl | rfl | rfl | rfl | rfl | rfl | rfl | rfl | rfl | rfl | rfl | rfl | rfl | rfl | rfl | rfl | rfl | rfl | rfl | rfl | rfl | rfl | rfl
  · exact entNotV (k := .u32) (a := to) (b := 255) (c := (to / 256 * 256)) rfl rfl rfl (by exact clear_u32 to (by first | omega | (simp only [sumVal, oct.sumF, oct.F, oct.ws]; omega)) (by first | omega | (simp only [sumVal, oct.sumF, oct.F, oct.ws]; omega)) 8 255 256 (by decide) (by decide) (by decide))
  · exact entShrV (k := .u32) (l := .u64) (a := to) (c := (to / 16777216)) (s := 24) rfl rfl rfl (by decide) (by exact fdiv_nat _ 16777216)
  · exact entConvV (k := .u8) (l := .u32) (a := (to / 16777216)) (c := (to / 16777216)) rfl rfl (by rw [IntWalk.u8_in _ (by first | omega | (simp only [sumVal, oct.sumF, oct.F, oct.ws]; omega))])
  · exact entShrV (k := .u32) (l := .u64) (a := to) (c := (to / 65536)) (s := 16) rfl rfl rfl (by decide) (by exact fdiv_nat _ 65536)
  · exact entConvV (k := .u8) (l := .u32) (a := (to / 65536)) (c := ((to / 65536) % 256)) rfl rfl (by rw [IntKind.wrap_u8])
  · exact entShrV (k := .u32) (l := .u64) (a := to) (c := (to / 256)) (s := 8) rfl rfl rfl (by decide) (by exact fdiv_nat _ 256)
  · exact entConvV (k := .u8) (l := .u32) (a := (to / 256)) (c := ((to / 256) % 256)) rfl rfl (by rw [IntKind.wrap_u8])
  · exact entConvV (k := .u8) (l := .u32) (a := to) (c := (to % 256)) rfl rfl (by rw [IntKind.wrap_u8])
  · exact entConvV (k := .u64) (l := .i64) (a := (sumVal true [69, 0, 0, 29, 0, 1, 0, 0, 64, 17, 0, 0, 10, 0, 0, 1, (to / 16777216), ((to / 65536) % 256), ((to / 256) % 256), (to % 256)])) (c := (sumVal true [69, 0, 0, 29, 0, 1, 0, 0, 64, 17, 0, 0, 10, 0, 0, 1, (to / 16777216), ((to / 65536) % 256), ((to / 256) % 256), (to % 256)])) rfl rfl (by rw [IntWalk.u64_in _ (by first | omega | (simp only [sumVal, oct.sumF, oct.F, oct.ws]; omega))])
  · exact entShrV (k := .u64) (l := .u64) (a := (sumVal true [69, 0, 0, 29, 0, 1, 0, 0, 64, 17, 0, 0, 10, 0, 0, 1, (to / 16777216), ((to / 65536) % 256), ((to / 256) % 256), (to % 256)])) (c := ((sumVal true [69, 0, 0, 29, 0, 1, 0, 0, 64, 17, 0, 0, 10, 0, 0, 1, (to / 16777216), ((to / 65536) % 256), ((to / 256) % 256), (to % 256)]) / 256)) (s := 8) rfl rfl rfl (by decide) (by exact fdiv_nat _ 256)
  · exact entConvV (k := .u8) (l := .u64) (a := ((sumVal true [69, 0, 0, 29, 0, 1, 0, 0, 64, 17, 0, 0, 10, 0, 0, 1, (to / 16777216), ((to / 65536) % 256), ((to / 256) % 256), (to % 256)]) / 256)) (c := ((sumVal true [69, 0, 0, 29, 0, 1, 0, 0, 64, 17, 0, 0, 10, 0, 0, 1, (to / 16777216), ((to / 65536) % 256), ((to / 256) % 256), (to % 256)]) / 256)) rfl rfl (by rw [IntWalk.u8_in _ (by first | omega | (simp only [sumVal, oct.sumF, oct.F, oct.ws]; omega))])
  · exact entConvV (k := .u8) (l := .u64) (a := (sumVal true [69, 0, 0, 29, 0, 1, 0, 0, 64, 17, 0, 0, 10, 0, 0, 1, (to / 16777216), ((to / 65536) % 256), ((to / 256) % 256), (to % 256)])) (c := ((sumVal true [69, 0, 0, 29, 0, 1, 0, 0, 64, 17, 0, 0, 10, 0, 0, 1, (to / 16777216), ((to / 65536) % 256), ((to / 256) % 256), (to % 256)]) % 256)) rfl rfl (by rw [IntKind.wrap_u8])
  · exact entShrV (k := .u32) (l := .i64) (a := to) (c := (to / 2147483648)) (s := 31) rfl rfl rfl (by decide) (by exact fdiv_nat _ 2147483648)
  · exact entShrV (k := .u32) (l := .i64) (a := to) (c := (to / 1073741824)) (s := 30) rfl rfl rfl (by decide) (by exact fdiv_nat _ 1073741824)
  · exact entShrV (k := .u32) (l := .i64) (a := to) (c := (to / 536870912)) (s := 29) rfl rfl rfl (by decide) (by exact fdiv_nat _ 536870912)
  · exact entShrV (k := .u32) (l := .i64) (a := to) (c := (to / 268435456)) (s := 28) rfl rfl rfl (by decide) (by exact fdiv_nat _ 268435456)
  · exact entShrV (k := .u32) (l := .i64) (a := to) (c := (to / 134217728)) (s := 27) rfl rfl rfl (by decide) (by exact fdiv_nat _ 134217728)
  · exact entShrV (k := .u32) (l := .i64) (a := to) (c := (to / 67108864)) (s := 26) rfl rfl rfl (by decide) (by exact fdiv_nat _ 67108864)
  · exact entShrV (k := .u32) (l := .i64) (a := to) (c := (to / 33554432)) (s := 25) rfl rfl rfl (by decide) (by exact fdiv_nat _ 33554432)
  · exact entShrV (k := .u32) (l := .i64) (a := to) (c := (to / 16777216)) (s := 24) rfl rfl rfl (by decide) (by exact fdiv_nat _ 16777216)
  · exact entShrV (k := .u32) (l := .i64) (a := to) (c := (to / 8388608)) (s := 23) rfl rfl rfl (by decide) (by exact fdiv_nat _ 8388608)
  · exact entShrV (k := .u32) (l := .i64) (a := to) (c := (to / 4194304)) (s := 22) rfl rfl rfl (by decide) (by exact fdiv_nat _ 4194304)
  · exact entShrV (k := .u32) (l := .i64) (a := to) (c := (to / 2097152)) (s := 21) rfl rfl rfl (by decide) (by exact fdiv_nat _ 2097152)
  · exact entShrV (k := .u32) (l := .i64) (a := to) (c := (to / 1048576)) (s := 20) rfl rfl rfl (by decide) (by exact fdiv_nat _ 1048576)
  · exact entShrV (k := .u32) (l := .i64) (a := to) (c := (to / 524288)) (s := 19) rfl rfl rfl (by decide) (by exact fdiv_nat _ 524288)
  · exact entShrV (k := .u32) (l := .i64) (a := to) (c := (to / 262144)) (s := 18) rfl rfl rfl (by decide) (by exact fdiv_nat _ 262144)
  · exact entShrV (k := .u32) (l := .i64) (a := to) (c := (to / 131072)) (s := 17) rfl rfl rfl (by decide) (by exact fdiv_nat _ 131072)
  · exact entShrV (k := .u32) (l := .i64) (a := to) (c := (to / 65536)) (s := 16) rfl rfl rfl (by decide) (by exact fdiv_nat _ 65536)
  · exact entShrV (k := .u32) (l := .i64) (a := to) (c := (to / 32768)) (s := 15) rfl rfl rfl (by decide) (by exact fdiv_nat _ 32768)
  · exact entShrV (k := .u32) (l := .i64) (a := to) (c := (to / 16384)) (s := 14) rfl rfl rfl (by decide) (by exact fdiv_nat _ 16384)
theorem hzac [Env] {P : Program} {e : Ent} {l : List Ent} (h : EntOK P e) (k : ∀ x ∈ l, EntOK P x) : ∀ x ∈ e :: l, EntOK P x := allECons h k
def hze0 : Ent := .bin .eql (.chan (some 1)) (.int .u32 167772160) (.bool false)
theorem hze0_ok (to : Int) (ht0 : 0 ≤ to) (ht1 : to ≤ 4294967295) (hc : ¬ ((to / 256 * 256) = 167772160)) : @EntOK (hzV to) Tryz.prog hze0 := by
  letI : Env := hzV to
  exact entCmp (k := .u32) (a := (to / 256 * 256)) (b := 167772160) rfl rfl (by show some (((to / 256 * 256) : Int) == 167772160) = some false; rw [beq_eq_false_iff_ne.2 (by first | omega | (simp only [sumVal, oct.sumF, oct.F, oct.ws]; omega))])
def hze1 : Ent := .bin .geq (.chan (some 0)) (.int .u32 3758096384) (.bool false)
theorem hze1_ok (to : Int) (ht0 : 0 ≤ to) (ht1 : to ≤ 4294967295) (hc : ¬ (to ≥ 3758096384)) : @EntOK (hzV to) Tryz.prog hze1 := by
  letI : Env := hzV to
  exact entCmp (k := .u32) (a := to) (b := 3758096384) rfl rfl (by show some (decide ((to : Int) ≥ 3758096384)) = some false; rw [decide_eq_false (by first | omega | (simp only [sumVal, oct.sumF, oct.F, oct.ws]; omega))])
def hze2 : Ent := .bin .eql (.chan (some 9)) (.int .i64 0) (.bool true)
theorem hze2_ok (to : Int) (ht0 : 0 ≤ to) (ht1 : to ≤ 4294967295) (hc : (sumVal true [10, 0, 0, 1, (to / 16777216), ((to / 65536) % 256), ((to / 256) % 256), (to % 256), 0, 17, 0, 9, 0, 5, 0, 6, 0, 9, 0, 0, 120]) = 0) : @EntOK (hzV to) Tryz.prog hze2 := by
  letI : Env := hzV to
  have bd0 := sumVal_bd true [10, 0, 0, 1, (to / 16777216), ((to / 65536) % 256), ((to / 256) % 256), (to % 256), 0, 17, 0, 9, 0, 5, 0, 6, 0, 9, 0, 0, 120] (by intro b hb; simp only [List.mem_cons, List.not_mem_nil, or_false] at hb; rcases hb with rfl | rfl | rfl | rfl | rfl | rfl | rfl | rfl | rfl | rfl | rfl | rfl | rfl | rfl | rfl | rfl | rfl | rfl | rfl | rfl | rfl <;> omega)
  have bd1 := sumVal_bd true [69, 0, 0, 29, 0, 1, 0, 0, 64, 17, 0, 0, 10, 0, 0, 1, (to / 16777216), ((to / 65536) % 256), ((to / 256) % 256), (to % 256)] (by intro b hb; simp only [List.mem_cons, List.not_mem_nil, or_false] at hb; rcases hb with rfl | rfl | rfl | rfl | rfl | rfl | rfl | rfl | rfl | rfl | rfl | rfl | rfl | rfl | rfl | rfl | rfl | rfl | rfl | rfl <;> omega)
  exact entCmp (k := .i64) (a := (sumVal true [10, 0, 0, 1, (to / 16777216), ((to / 65536) % 256), ((to / 256) % 256), (to % 256), 0, 17, 0, 9, 0, 5, 0, 6, 0, 9, 0, 0, 120])) (b := 0) rfl rfl (by show some (((sumVal true [10, 0, 0, 1, (to / 16777216), ((to / 65536) % 256), ((to / 256) % 256), (to % 256), 0, 17, 0, 9, 0, 5, 0, 6, 0, 9, 0, 0, 120]) : Int) == 0) = some true; rw [beq_iff_eq.2 (by first | omega | (simp only [sumVal, oct.sumF, oct.F, oct.ws]; omega))])
def hze3 : Ent := .bin .eql (.chan (some 0)) (.int .u32 167772161) (.bool false)
theorem hze3_ok (to : Int) (ht0 : 0 ≤ to) (ht1 : to ≤ 4294967295) (hc : ¬ (to = 167772161)) : @EntOK (hzV to) Tryz.prog hze3 := by
  letI : Env := hzV to
  exact entCmp (k := .u32) (a := to) (b := 167772161) rfl rfl (by show some ((to : Int) == 167772161) = some false; rw [beq_eq_false_iff_ne.2 (by first | omega | (simp only [sumVal, oct.sumF, oct.F, oct.ws]; omega))])
def hze4 : Ent := .bin .eql (.chan (some 0)) (.int .u32 4294967295) (.bool false)
theorem hze4_ok (to : Int) (ht0 : 0 ≤ to) (ht1 : to ≤ 4294967295) (hc : ¬ ((to : Int) = 4294967295)) : @EntOK (hzV to) Tryz.prog hze4 := by
  letI : Env := hzV to
  exact entCmp (k := .u32) (a := to) (b := 4294967295) rfl rfl (by show some ((to : Int) == 4294967295) = some false; rw [beq_eq_false_iff_ne.2 (by first | omega | (simp only [sumVal, oct.sumF, oct.F, oct.ws]; omega))])
def hze5 : Ent := .bin .eql (.chan (some 0)) (.int .u32 167772415) (.bool false)
theorem hze5_ok (to : Int) (ht0 : 0 ≤ to) (ht1 : to ≤ 4294967295) (hc : ¬ (to = 167772415)) : @EntOK (hzV to) Tryz.prog hze5 := by
  letI : Env := hzV to
  exact entCmp (k := .u32) (a := to) (b := 167772415) rfl rfl (by show some ((to : Int) == 167772415) = some false; rw [beq_eq_false_iff_ne.2 (by first | omega | (simp only [sumVal, oct.sumF, oct.F, oct.ws]; omega))])
def hze6 : Ent := .bin .and (.chan (some 15)) (.int .u32 1) (.int .u32 1)
theorem hze6_ok (to : Int) (ht0 : 0 ≤ to) (ht1 : to ≤ 4294967295) (hc : ((to / 2147483648) % 2) = 1) : @EntOK (hzV to) Tryz.prog hze6 := by
  letI : Env := hzV to
  exact entAndI (k := .u32) (a := (to / 2147483648)) (b := 1) (c := 1) rfl rfl (by rw [show band .u32 (to / 2147483648) 1 = ((to / 2147483648) % 2) from (by exact low_u32 (to / 2147483648) (by first | omega | (simp only [sumVal, oct.sumF, oct.F, oct.ws]; omega)) (by first | omega | (simp only [sumVal, oct.sumF, oct.F, oct.ws]; omega)) 1 1 2 (by decide) (by decide) (by decide))]; omega)
def hze7 : Ent := .bin .and (.chan (some 15)) (.int .u32 1) (.int .u32 0)
theorem hze7_ok (to : Int) (ht0 : 0 ≤ to) (ht1 : to ≤ 4294967295) (hc : ((to / 2147483648) % 2) = 0) : @EntOK (hzV to) Tryz.prog hze7 := by
  letI : Env := hzV to
  exact entAndI (k := .u32) (a := (to / 2147483648)) (b := 1) (c := 0) rfl rfl (by rw [show band .u32 (to / 2147483648) 1 = ((to / 2147483648) % 2) from (by exact low_u32 (to / 2147483648) (by first | omega | (simp only [sumVal, oct.sumF, oct.F, oct.ws]; omega)) (by first | omega | (simp only [sumVal, oct.sumF, oct.F, oct.ws]; omega)) 1 1 2 (by decide) (by decide) (by decide))]; omega)
def hze8 : Ent := .bin .and (.chan (some 17)) (.int .u32 1) (.int .u32 1)
theorem hze8_ok (to : Int) (ht0 : 0 ≤ to) (ht1 : to ≤ 4294967295) (hc : ((to / 1073741824) % 2) = 1) : @EntOK (hzV to) Tryz.prog hze8 := by
  letI : Env := hzV to
  exact entAndI (k := .u32) (a := (to / 1073741824)) (b := 1) (c := 1) rfl rfl (by rw [show band .u32 (to / 1073741824) 1 = ((to / 1073741824) % 2) from (by exact low_u32 (to / 1073741824) (by first | omega | (simp only [sumVal, oct.sumF, oct.F, oct.ws]; omega)) (by first | omega | (simp only [sumVal, oct.sumF, oct.F, oct.ws]; omega)) 1 1 2 (by decide) (by decide) (by decide))]; omega)
def hze9 : Ent := .bin .and (.chan (some 17)) (.int .u32 1) (.int .u32 0)
theorem hze9_ok (to : Int) (ht0 : 0 ≤ to) (ht1 : to ≤ 4294967295) (hc : ((to / 1073741824) % 2) = 0) : @EntOK (hzV to) Tryz.prog hze9 := by
  letI : Env := hzV to
  exact entAndI (k := .u32) (a := (to / 1073741824)) (b := 1) (c := 0) rfl rfl (by rw [show band .u32 (to / 1073741824) 1 = ((to / 1073741824) % 2) from (by exact low_u32 (to / 1073741824) (by first | omega | (simp only [sumVal, oct.sumF, oct.F, oct.ws]; omega)) (by first | omega | (simp only [sumVal, oct.sumF, oct.F, oct.ws]; omega)) 1 1 2 (by decide) (by decide) (by decide))]; omega)
def hze10 : Ent := .bin .and (.chan (some 19)) (.int .u32 1) (.int .u32 1)
theorem hze10_ok (to : Int) (ht0 : 0 ≤ to) (ht1 : to ≤ 4294967295) (hc : ((to / 536870912) % 2) = 1) : @EntOK (hzV to) Tryz.prog hze10 := by
  letI : Env := hzV to
  exact entAndI (k := .u32) (a := (to / 536870912)) (b := 1) (c := 1) rfl rfl (by rw [show band .u32 (to / 536870912) 1 = ((to / 536870912) % 2) from (by exact low_u32 (to / 536870912) (by first | omega | (simp only [sumVal, oct.sumF, oct.F, oct.ws]; omega)) (by first | omega | (simp only [sumVal, oct.sumF, oct.F, oct.ws]; omega)) 1 1 2 (by decide) (by decide) (by decide))]; omega)
def hze11 : Ent := .bin .and (.chan (some 19)) (.int .u32 1) (.int .u32 0)
theorem hze11_ok (to : Int) (ht0 : 0 ≤ to) (ht1 : to ≤ 4294967295) (hc : ((to / 536870912) % 2) = 0) : @EntOK (hzV to) Tryz.prog hze11 := by
  letI : Env := hzV to
  exact entAndI (k := .u32) (a := (to / 536870912)) (b := 1) (c := 0) rfl rfl (by rw [show band .u32 (to / 536870912) 1 = ((to / 536870912) % 2) from (by exact low_u32 (to / 536870912) (by first | omega | (simp only [sumVal, oct.sumF, oct.F, oct.ws]; omega)) (by first | omega | (simp only [sumVal, oct.sumF, oct.F, oct.ws]; omega)) 1 1 2 (by decide) (by decide) (by decide))]; omega)
def hze12 : Ent := .bin .and (.chan (some 21)) (.int .u32 1) (.int .u32 1)
theorem hze12_ok (to : Int) (ht0 : 0 ≤ to) (ht1 : to ≤ 4294967295) (hc : ((to / 268435456) % 2) = 1) : @EntOK (hzV to) Tryz.prog hze12 := by
  letI : Env := hzV to
  exact entAndI (k := .u32) (a := (to / 268435456)) (b := 1) (c := 1) rfl rfl (by rw [show band .u32 (to / 268435456) 1 = ((to / 268435456) % 2) from (by exact low_u32 (to / 268435456) (by first | omega | (simp only [sumVal, oct.sumF, oct.F, oct.ws]; omega)) (by first | omega | (simp only [sumVal, oct.sumF, oct.F, oct.ws]; omega)) 1 1 2 (by decide) (by decide) (by decide))]; omega)
def hze13 : Ent := .bin .and (.chan (some 21)) (.int .u32 1) (.int .u32 0)
theorem hze13_ok (to : Int) (ht0 : 0 ≤ to) (ht1 : to ≤ 4294967295) (hc : ((to / 268435456) % 2) = 0) : @EntOK (hzV to) Tryz.prog hze13 := by
  letI : Env := hzV to
  exact entAndI (k := .u32) (a := (to / 268435456)) (b := 1) (c := 0) rfl rfl (by rw [show band .u32 (to / 268435456) 1 = ((to / 268435456) % 2) from (by exact low_u32 (to / 268435456) (by first | omega | (simp only [sumVal, oct.sumF, oct.F, oct.ws]; omega)) (by first | omega | (simp only [sumVal, oct.sumF, oct.F, oct.ws]; omega)) 1 1 2 (by decide) (by decide) (by decide))]; omega)
def hze14 : Ent := .bin .and (.chan (some 23)) (.int .u32 1) (.int .u32 0)
theorem hze14_ok (to : Int) (ht0 : 0 ≤ to) (ht1 : to ≤ 4294967295) (hc : ((to / 134217728) % 2) = 0) : @EntOK (hzV to) Tryz.prog hze14 := by
  letI : Env := hzV to
  exact entAndI (k := .u32) (a := (to / 134217728)) (b := 1) (c := 0) rfl rfl (by rw [show band .u32 (to / 134217728) 1 = ((to / 134217728) % 2) from (by exact low_u32 (to / 134217728) (by first | omega | (simp only [sumVal, oct.sumF, oct.F, oct.ws]; omega)) (by first | omega | (simp only [sumVal, oct.sumF, oct.F, oct.ws]; omega)) 1 1 2 (by decide) (by decide) (by decide))]; omega)
def hze15 : Ent := .bin .and (.chan (some 23)) (.int .u32 1) (.int .u32 1)
theorem hze15_ok (to : Int) (ht0 : 0 ≤ to) (ht1 : to ≤ 4294967295) (hc : ((to / 134217728) % 2) = 1) : @EntOK (hzV to) Tryz.prog hze15 := by
  letI : Env := hzV to
  exact entAndI (k := .u32) (a := (to / 134217728)) (b := 1) (c := 1) rfl rfl (by rw [show band .u32 (to / 134217728) 1 = ((to / 134217728) % 2) from (by exact low_u32 (to / 134217728) (by first | omega | (simp only [sumVal, oct.sumF, oct.F, oct.ws]; omega)) (by first | omega | (simp only [sumVal, oct.sumF, oct.F, oct.ws]; omega)) 1 1 2 (by decide) (by decide) (by decide))]; omega)
def hze16 : Ent := .bin .and (.chan (some 25)) (.int .u32 1) (.int .u32 1)
theorem hze16_ok (to : Int) (ht0 : 0 ≤ to) (ht1 : to ≤ 4294967295) (hc : ((to / 67108864) % 2) = 1) : @EntOK (hzV to) Tryz.prog hze16 := by
  letI : Env := hzV to
  exact entAndI (k := .u32) (a := (to / 67108864)) (b := 1) (c := 1) rfl rfl (by rw [show band .u32 (to / 67108864) 1 = ((to / 67108864) % 2) from (by exact low_u32 (to / 67108864) (by first | omega | (simp only [sumVal, oct.sumF, oct.F, oct.ws]; omega)) (by first | omega | (simp only [sumVal, oct.sumF, oct.F, oct.ws]; omega)) 1 1 2 (by decide) (by decide) (by decide))]; omega)
def hze17 : Ent := .bin .and (.chan (some 25)) (.int .u32 1) (.int .u32 0)
theorem hze17_ok (to : Int) (ht0 : 0 ≤ to) (ht1 : to ≤ 4294967295) (hc : ((to / 67108864) % 2) = 0) : @EntOK (hzV to) Tryz.prog hze17 := by
  letI : Env := hzV to
  exact entAndI (k := .u32) (a := (to / 67108864)) (b := 1) (c := 0) rfl rfl (by rw [show band .u32 (to / 67108864) 1 = ((to / 67108864) % 2) from (by exact low_u32 (to / 67108864) (by first | omega | (simp only [sumVal, oct.sumF, oct.F, oct.ws]; omega)) (by first | omega | (simp only [sumVal, oct.sumF, oct.F, oct.ws]; omega)) 1 1 2 (by decide) (by decide) (by decide))]; omega)
def hze18 : Ent := .bin .and (.chan (some 27)) (.int .u32 1) (.int .u32 0)
theorem hze18_ok (to : Int) (ht0 : 0 ≤ to) (ht1 : to ≤ 4294967295) (hc : ((to / 33554432) % 2) = 0) : @EntOK (hzV to) Tryz.prog hze18 := by
  letI : Env := hzV to
  exact entAndI (k := .u32) (a := (to / 33554432)) (b := 1) (c := 0) rfl rfl (by rw [show band .u32 (to / 33554432) 1 = ((to / 33554432) % 2) from (by exact low_u32 (to / 33554432) (by first | omega | (simp only [sumVal, oct.sumF, oct.F, oct.ws]; omega)) (by first | omega | (simp only [sumVal, oct.sumF, oct.F, oct.ws]; omega)) 1 1 2 (by decide) (by decide) (by decide))]; omega)
def hze19 : Ent := .bin .and (.chan (some 27)) (.int .u32 1) (.int .u32 1)
theorem hze19_ok (to : Int) (ht0 : 0 ≤ to) (ht1 : to ≤ 4294967295) (hc : ((to / 33554432) % 2) = 1) : @EntOK (hzV to) Tryz.prog hze19 := by
  letI : Env := hzV to
  exact entAndI (k := .u32) (a := (to / 33554432)) (b := 1) (c := 1) rfl rfl (by rw [show band .u32 (to / 33554432) 1 = ((to / 33554432) % 2) from (by exact low_u32 (to / 33554432) (by first | omega | (simp only [sumVal, oct.sumF, oct.F, oct.ws]; omega)) (by first | omega | (simp only [sumVal, oct.sumF, oct.F, oct.ws]; omega)) 1 1 2 (by decide) (by decide) (by decide))]; omega)
def hze20 : Ent := .bin .and (.chan (some 29)) (.int .u32 1) (.int .u32 1)
theorem hze20_ok (to : Int) (ht0 : 0 ≤ to) (ht1 : to ≤ 4294967295) (hc : ((to / 16777216) % 2) = 1) : @EntOK (hzV to) Tryz.prog hze20 := by
  letI : Env := hzV to
  exact entAndI (k := .u32) (a := (to / 16777216)) (b := 1) (c := 1) rfl rfl (by rw [show band .u32 (to / 16777216) 1 = ((to / 16777216) % 2) from (by exact low_u32 (to / 16777216) (by first | omega | (simp only [sumVal, oct.sumF, oct.F, oct.ws]; omega)) (by first | omega | (simp only [sumVal, oct.sumF, oct.F, oct.ws]; omega)) 1 1 2 (by decide) (by decide) (by decide))]; omega)
def hze21 : Ent := .bin .and (.chan (some 29)) (.int .u32 1) (.int .u32 0)
theorem hze21_ok (to : Int) (ht0 : 0 ≤ to) (ht1 : to ≤ 4294967295) (hc : ((to / 16777216) % 2) = 0) : @EntOK (hzV to) Tryz.prog hze21 := by
  letI : Env := hzV to
  exact entAndI (k := .u32) (a := (to / 16777216)) (b := 1) (c := 0) rfl rfl (by rw [show band .u32 (to / 16777216) 1 = ((to / 16777216) % 2) from (by exact low_u32 (to / 16777216) (by first | omega | (simp only [sumVal, oct.sumF, oct.F, oct.ws]; omega)) (by first | omega | (simp only [sumVal, oct.sumF, oct.F, oct.ws]; omega)) 1 1 2 (by decide) (by decide) (by decide))]; omega)
def hze22 : Ent := .bin .and (.chan (some 31)) (.int .u32 1) (.int .u32 1)
theorem hze22_ok (to : Int) (ht0 : 0 ≤ to) (ht1 : to ≤ 4294967295) (hc : ((to / 8388608) % 2) = 1) : @EntOK (hzV to) Tryz.prog hze22 := by
  letI : Env := hzV to
  exact entAndI (k := .u32) (a := (to / 8388608)) (b := 1) (c := 1) rfl rfl (by rw [show band .u32 (to / 8388608) 1 = ((to / 8388608) % 2) from (by exact low_u32 (to / 8388608) (by first | omega | (simp only [sumVal, oct.sumF, oct.F, oct.ws]; omega)) (by first | omega | (simp only [sumVal, oct.sumF, oct.F, oct.ws]; omega)) 1 1 2 (by decide) (by decide) (by decide))]; omega)
def hze23 : Ent := .bin .and (.chan (some 31)) (.int .u32 1) (.int .u32 0)
theorem hze23_ok (to : Int) (ht0 : 0 ≤ to) (ht1 : to ≤ 4294967295) (hc : ((to / 8388608) % 2) = 0) : @EntOK (hzV to) Tryz.prog hze23 := by
  letI : Env := hzV to
  exact entAndI (k := .u32) (a := (to / 8388608)) (b := 1) (c := 0) rfl rfl (by rw [show band .u32 (to / 8388608) 1 = ((to / 8388608) % 2) from (by exact low_u32 (to / 8388608) (by first | omega | (simp only [sumVal, oct.sumF, oct.F, oct.ws]; omega)) (by first | omega | (simp only [sumVal, oct.sumF, oct.F, oct.ws]; omega)) 1 1 2 (by decide) (by decide) (by decide))]; omega)
def hze24 : Ent := .bin .and (.chan (some 33)) (.int .u32 1) (.int .u32 1)
theorem hze24_ok (to : Int) (ht0 : 0 ≤ to) (ht1 : to ≤ 4294967295) (hc : ((to / 4194304) % 2) = 1) : @EntOK (hzV to) Tryz.prog hze24 := by
  letI : Env := hzV to
  exact entAndI (k := .u32) (a := (to / 4194304)) (b := 1) (c := 1) rfl rfl (by rw [show band .u32 (to / 4194304) 1 = ((to / 4194304) % 2) from (by exact low_u32 (to / 4194304) (by first | omega | (simp only [sumVal, oct.sumF, oct.F, oct.ws]; omega)) (by first | omega | (simp only [sumVal, oct.sumF, oct.F, oct.ws]; omega)) 1 1 2 (by decide) (by decide) (by decide))]; omega)
def hze25 : Ent := .bin .and (.chan (some 33)) (.int .u32 1) (.int .u32 0)
theorem hze25_ok (to : Int) (ht0 : 0 ≤ to) (ht1 : to ≤ 4294967295) (hc : ((to / 4194304) % 2) = 0) : @EntOK (hzV to) Tryz.prog hze25 := by
  letI : Env := hzV to
  exact entAndI (k := .u32) (a := (to / 4194304)) (b := 1) (c := 0) rfl rfl (by rw [show band .u32 (to / 4194304) 1 = ((to / 4194304) % 2) from (by exact low_u32 (to / 4194304) (by first | omega | (simp only [sumVal, oct.sumF, oct.F, oct.ws]; omega)) (by first | omega | (simp only [sumVal, oct.sumF, oct.F, oct.ws]; omega)) 1 1 2 (by decide) (by decide) (by decide))]; omega)
def hze26 : Ent := .bin .and (.chan (some 35)) (.int .u32 1) (.int .u32 1)
theorem hze26_ok (to : Int) (ht0 : 0 ≤ to) (ht1 : to ≤ 4294967295) (hc : ((to / 2097152) % 2) = 1) : @EntOK (hzV to) Tryz.prog hze26 := by
  letI : Env := hzV to
  exact entAndI (k := .u32) (a := (to / 2097152)) (b := 1) (c := 1) rfl rfl (by rw [show band .u32 (to / 2097152) 1 = ((to / 2097152) % 2) from (by exact low_u32 (to / 2097152) (by first | omega | (simp only [sumVal, oct.sumF, oct.F, oct.ws]; omega)) (by first | omega | (simp only [sumVal, oct.sumF, oct.F, oct.ws]; omega)) 1 1 2 (by decide) (by decide) (by decide))]; omega)
def hze27 : Ent := .bin .and (.chan (some 35)) (.int .u32 1) (.int .u32 0)
theorem hze27_ok (to : Int) (ht0 : 0 ≤ to) (ht1 : to ≤ 4294967295) (hc : ((to / 2097152) % 2) = 0) : @EntOK (hzV to) Tryz.prog hze27 := by
  letI : Env := hzV to
  exact entAndI (k := .u32) (a := (to / 2097152)) (b := 1) (c := 0) rfl rfl (by rw [show band .u32 (to / 2097152) 1 = ((to / 2097152) % 2) from (by exact low_u32 (to / 2097152) (by first | omega | (simp only [sumVal, oct.sumF, oct.F, oct.ws]; omega)) (by first | omega | (simp only [sumVal, oct.sumF, oct.F, oct.ws]; omega)) 1 1 2 (by decide) (by decide) (by decide))]; omega)
def hze28 : Ent := .bin .and (.chan (some 37)) (.int .u32 1) (.int .u32 1)
theorem hze28_ok (to : Int) (ht0 : 0 ≤ to) (ht1 : to ≤ 4294967295) (hc : ((to / 1048576) % 2) = 1) : @EntOK (hzV to) Tryz.prog hze28 := by
  letI : Env := hzV to
  exact entAndI (k := .u32) (a := (to / 1048576)) (b := 1) (c := 1) rfl rfl (by rw [show band .u32 (to / 1048576) 1 = ((to / 1048576) % 2) from (by exact low_u32 (to / 1048576) (by first | omega | (simp only [sumVal, oct.sumF, oct.F, oct.ws]; omega)) (by first | omega | (simp only [sumVal, oct.sumF, oct.F, oct.ws]; omega)) 1 1 2 (by decide) (by decide) (by decide))]; omega)
def hze29 : Ent := .bin .and (.chan (some 37)) (.int .u32 1) (.int .u32 0)
theorem hze29_ok (to : Int) (ht0 : 0 ≤ to) (ht1 : to ≤ 4294967295) (hc : ((to / 1048576) % 2) = 0) : @EntOK (hzV to) Tryz.prog hze29 := by
  letI : Env := hzV to
  exact entAndI (k := .u32) (a := (to / 1048576)) (b := 1) (c := 0) rfl rfl (by rw [show band .u32 (to / 1048576) 1 = ((to / 1048576) % 2) from (by exact low_u32 (to / 1048576) (by first | omega | (simp only [sumVal, oct.sumF, oct.F, oct.ws]; omega)) (by first | omega | (simp only [sumVal, oct.sumF, oct.F, oct.ws]; omega)) 1 1 2 (by decide) (by decide) (by decide))]; omega)
def hze30 : Ent := .bin .and (.chan (some 39)) (.int .u32 1) (.int .u32 1)
theorem hze30_ok (to : Int) (ht0 : 0 ≤ to) (ht1 : to ≤ 4294967295) (hc : ((to / 524288) % 2) = 1) : @EntOK (hzV to) Tryz.prog hze30 := by
  letI : Env := hzV to
  exact entAndI (k := .u32) (a := (to / 524288)) (b := 1) (c := 1) rfl rfl (by rw [show band .u32 (to / 524288) 1 = ((to / 524288) % 2) from (by exact low_u32 (to / 524288) (by first | omega | (simp only [sumVal, oct.sumF, oct.F, oct.ws]; omega)) (by first | omega | (simp only [sumVal, oct.sumF, oct.F, oct.ws]; omega)) 1 1 2 (by decide) (by decide) (by decide))]; omega)
def hze31 : Ent := .bin .and (.chan (some 39)) (.int .u32 1) (.int .u32 0)
theorem hze31_ok (to : Int) (ht0 : 0 ≤ to) (ht1 : to ≤ 4294967295) (hc : ((to / 524288) % 2) = 0) : @EntOK (hzV to) Tryz.prog hze31 := by
  letI : Env := hzV to
  exact entAndI (k := .u32) (a := (to / 524288)) (b := 1) (c := 0) rfl rfl (by rw [show band .u32 (to / 524288) 1 = ((to / 524288) % 2) from (by exact low_u32 (to / 524288) (by first | omega | (simp only [sumVal, oct.sumF, oct.F, oct.ws]; omega)) (by first | omega | (simp only [sumVal, oct.sumF, oct.F, oct.ws]; omega)) 1 1 2 (by decide) (by decide) (by decide))]; omega)
def hze32 : Ent := .bin .and (.chan (some 41)) (.int .u32 1) (.int .u32 1)
theorem hze32_ok (to : Int) (ht0 : 0 ≤ to) (ht1 : to ≤ 4294967295) (hc : ((to / 262144) % 2) = 1) : @EntOK (hzV to) Tryz.prog hze32 := by
  letI : Env := hzV to
  exact entAndI (k := .u32) (a := (to / 262144)) (b := 1) (c := 1) rfl rfl (by rw [show band .u32 (to / 262144) 1 = ((to / 262144) % 2) from (by exact low_u32 (to / 262144) (by first | omega | (simp only [sumVal, oct.sumF, oct.F, oct.ws]; omega)) (by first | omega | (simp only [sumVal, oct.sumF, oct.F, oct.ws]; omega)) 1 1 2 (by decide) (by decide) (by decide))]; omega)
def hze33 : Ent := .bin .and (.chan (some 41)) (.int .u32 1) (.int .u32 0)
theorem hze33_ok (to : Int) (ht0 : 0 ≤ to) (ht1 : to ≤ 4294967295) (hc : ((to / 262144) % 2) = 0) : @EntOK (hzV to) Tryz.prog hze33 := by
  letI : Env := hzV to
  exact entAndI (k := .u32) (a := (to / 262144)) (b := 1) (c := 0) rfl rfl (by rw [show band .u32 (to / 262144) 1 = ((to / 262144) % 2) from (by exact low_u32 (to / 262144) (by first | omega | (simp only [sumVal, oct.sumF, oct.F, oct.ws]; omega)) (by first | omega | (simp only [sumVal, oct.sumF, oct.F, oct.ws]; omega)) 1 1 2 (by decide) (by decide) (by decide))]; omega)
def hze34 : Ent := .bin .and (.chan (some 43)) (.int .u32 1) (.int .u32 1)
theorem hze34_ok (to : Int) (ht0 : 0 ≤ to) (ht1 : to ≤ 4294967295) (hc : ((to / 131072) % 2) = 1) : @EntOK (hzV to) Tryz.prog hze34 := by
  letI : Env := hzV to
  exact entAndI (k := .u32) (a := (to / 131072)) (b := 1) (c := 1) rfl rfl (by rw [show band .u32 (to / 131072) 1 = ((to / 131072) % 2) from (by exact low_u32 (to / 131072) (by first | omega | (simp only [sumVal, oct.sumF, oct.F, oct.ws]; omega)) (by first | omega | (simp only [sumVal, oct.sumF, oct.F, oct.ws]; omega)) 1 1 2 (by decide) (by decide) (by decide))]; omega)
def hze35 : Ent := .bin .and (.chan (some 43)) (.int .u32 1) (.int .u32 0)
theorem hze35_ok (to : Int) (ht0 : 0 ≤ to) (ht1 : to ≤ 4294967295) (hc : ((to / 131072) % 2) = 0) : @EntOK (hzV to) Tryz.prog hze35 := by
  letI : Env := hzV to
  exact entAndI (k := .u32) (a := (to / 131072)) (b := 1) (c := 0) rfl rfl (by rw [show band .u32 (to / 131072) 1 = ((to / 131072) % 2) from (by exact low_u32 (to / 131072) (by first | omega | (simp only [sumVal, oct.sumF, oct.F, oct.ws]; omega)) (by first | omega | (simp only [sumVal, oct.sumF, oct.F, oct.ws]; omega)) 1 1 2 (by decide) (by decide) (by decide))]; omega)
def hze36 : Ent := .bin .and (.chan (some 45)) (.int .u32 1) (.int .u32 1)
theorem hze36_ok (to : Int) (ht0 : 0 ≤ to) (ht1 : to ≤ 4294967295) (hc : ((to / 65536) % 2) = 1) : @EntOK (hzV to) Tryz.prog hze36 := by
  letI : Env := hzV to
  exact entAndI (k := .u32) (a := (to / 65536)) (b := 1) (c := 1) rfl rfl (by rw [show band .u32 (to / 65536) 1 = ((to / 65536) % 2) from (by exact low_u32 (to / 65536) (by first | omega | (simp only [sumVal, oct.sumF, oct.F, oct.ws]; omega)) (by first | omega | (simp only [sumVal, oct.sumF, oct.F, oct.ws]; omega)) 1 1 2 (by decide) (by decide) (by decide))]; omega)
def hze37 : Ent := .bin .and (.chan (some 45)) (.int .u32 1) (.int .u32 0)
theorem hze37_ok (to : Int) (ht0 : 0 ≤ to) (ht1 : to ≤ 4294967295) (hc : ((to / 65536) % 2) = 0) : @EntOK (hzV to) Tryz.prog hze37 := by
  letI : Env := hzV to
  exact entAndI (k := .u32) (a := (to / 65536)) (b := 1) (c := 0) rfl rfl (by rw [show band .u32 (to / 65536) 1 = ((to / 65536) % 2) from (by exact low_u32 (to / 65536) (by first | omega | (simp only [sumVal, oct.sumF, oct.F, oct.ws]; omega)) (by first | omega | (simp only [sumVal, oct.sumF, oct.F, oct.ws]; omega)) 1 1 2 (by decide) (by decide) (by decide))]; omega)
def hze38 : Ent := .bin .and (.chan (some 47)) (.int .u32 1) (.int .u32 0)
theorem hze38_ok (to : Int) (ht0 : 0 ≤ to) (ht1 : to ≤ 4294967295) (hc : ((to / 32768) % 2) = 0) : @EntOK (hzV to) Tryz.prog hze38 := by
  letI : Env := hzV to
  exact entAndI (k := .u32) (a := (to / 32768)) (b := 1) (c := 0) rfl rfl (by rw [show band .u32 (to / 32768) 1 = ((to / 32768) % 2) from (by exact low_u32 (to / 32768) (by first | omega | (simp only [sumVal, oct.sumF, oct.F, oct.ws]; omega)) (by first | omega | (simp only [sumVal, oct.sumF, oct.F, oct.ws]; omega)) 1 1 2 (by decide) (by decide) (by decide))]; omega)
def hze39 : Ent := .bin .and (.chan (some 49)) (.int .u32 1) (.int .u32 1)
theorem hze39_ok (to : Int) (ht0 : 0 ≤ to) (ht1 : to ≤ 4294967295) (hc : ((to / 16384) % 2) = 1) : @EntOK (hzV to) Tryz.prog hze39 := by
  letI : Env := hzV to
  exact entAndI (k := .u32) (a := (to / 16384)) (b := 1) (c := 1) rfl rfl (by rw [show band .u32 (to / 16384) 1 = ((to / 16384) % 2) from (by exact low_u32 (to / 16384) (by first | omega | (simp only [sumVal, oct.sumF, oct.F, oct.ws]; omega)) (by first | omega | (simp only [sumVal, oct.sumF, oct.F, oct.ws]; omega)) 1 1 2 (by decide) (by decide) (by decide))]; omega)
theorem hz_run_true (w : World) (to : Int) (ht0 : 0 ≤ to) (ht1 : to ≤ 4294967295) (L : List Ent) (hents : ∀ e ∈ L, @EntOK (hzV to) Tryz.prog e) (h : says (fxCall Tryz.prog (tabOf Tryz.prog L) (spBoth (spSum [(124, true), (185, false)] hzPL) (spKnown 18)) 300 7 [.chan (some 0), .bool true] 0 .lf) = some true) : Calls Tryz.prog 7 #[.int .u32 to, .bool true] w (fun e w' => e = .returned (.bool true) ∧ Only [] w w') := by
  letI : Env := hzV to
  have hpl := hzPL_ok to ht0 ht1
  exact lawS [.int .u32 to, .int .u32 (to / 256 * 256), .int .u32 (to / 16777216), .int .u8 (to / 16777216), .int .u32 (to / 65536), .int .u8 ((to / 65536) % 256), .int .u32 (to / 256), .int .u8 ((to / 256) % 256), .int .u8 (to % 256), .int .i64 (sumVal true [10, 0, 0, 1, (to / 16777216), ((to / 65536) % 256), ((to / 256) % 256), (to % 256), 0, 17, 0, 9, 0, 5, 0, 6, 0, 9, 0, 0, 120]), .int .i64 (sumVal true [69, 0, 0, 29, 0, 1, 0, 0, 64, 17, 0, 0, 10, 0, 0, 1, (to / 16777216), ((to / 65536) % 256), ((to / 256) % 256), (to % 256)]), .int .u64 (sumVal true [69, 0, 0, 29, 0, 1, 0, 0, 64, 17, 0, 0, 10, 0, 0, 1, (to / 16777216), ((to / 65536) % 256), ((to / 256) % 256), (to % 256)]), .int .u64 ((sumVal true [69, 0, 0, 29, 0, 1, 0, 0, 64, 17, 0, 0, 10, 0, 0, 1, (to / 16777216), ((to / 65536) % 256), ((to / 256) % 256), (to % 256)]) / 256), .int .u8 ((sumVal true [69, 0, 0, 29, 0, 1, 0, 0, 64, 17, 0, 0, 10, 0, 0, 1, (to / 16777216), ((to / 65536) % 256), ((to / 256) % 256), (to % 256)]) / 256), .int .u8 ((sumVal true [69, 0, 0, 29, 0, 1, 0, 0, 64, 17, 0, 0, 10, 0, 0, 1, (to / 16777216), ((to / 65536) % 256), ((to / 256) % 256), (to % 256)]) % 256), .int .u32 (to / 2147483648), .int .u32 ((to / 2147483648) % 2), .int .u32 (to / 1073741824), .int .u32 ((to / 1073741824) % 2), .int .u32 (to / 536870912), .int .u32 ((to / 536870912) % 2), .int .u32 (to / 268435456), .int .u32 ((to / 268435456) % 2), .int .u32 (to / 134217728), .int .u32 ((to / 134217728) % 2), .int .u32 (to / 67108864), .int .u32 ((to / 67108864) % 2), .int .u32 (to / 33554432), .int .u32 ((to / 33554432) % 2), .int .u32 (to / 16777216), .int .u32 ((to / 16777216) % 2), .int .u32 (to / 8388608), .int .u32 ((to / 8388608) % 2), .int .u32 (to / 4194304), .int .u32 ((to / 4194304) % 2), .int .u32 (to / 2097152), .int .u32 ((to / 2097152) % 2), .int .u32 (to / 1048576), .int .u32 ((to / 1048576) % 2), .int .u32 (to / 524288), .int .u32 ((to / 524288) % 2), .int .u32 (to / 262144), .int .u32 ((to / 262144) % 2), .int .u32 (to / 131072), .int .u32 ((to / 131072) % 2), .int .u32 (to / 65536), .int .u32 ((to / 65536) % 2), .int .u32 (to / 32768), .int .u32 ((to / 32768) % 2), .int .u32 (to / 16384), .int .u32 ((to / 16384) % 2)] L (sp := (spBoth (spSum [(124, true), (185, false)] hzPL) (spKnown 18))) (spBoth_ok (spSum_ok sumsOK hpl) (spKnown_ok knownBody known)) hents h (PW.cons (.opq 0 rfl (fun b h => by cases h)) (PW.cons (VR.of_flat 6 _ rfl) (PW.nil _))) w
theorem hz_run_false (w : World) (to : Int) (ht0 : 0 ≤ to) (ht1 : to ≤ 4294967295) (L : List Ent) (hents : ∀ e ∈ L, @EntOK (hzV to) Tryz.prog e) (h : says (fxCall Tryz.prog (tabOf Tryz.prog L) (spBoth (spSum [(124, true), (185, false)] hzPL) (spKnown 18)) 300 7 [.chan (some 0), .bool false] 0 .lf) = some true) : Calls Tryz.prog 7 #[.int .u32 to, .bool false] w (fun e w' => e = .returned (.bool true) ∧ Only [] w w') := by
  letI : Env := hzV to
  have hpl := hzPL_ok to ht0 ht1
  exact lawS [.int .u32 to, .int .u32 (to / 256 * 256), .int .u32 (to / 16777216), .int .u8 (to / 16777216), .int .u32 (to / 65536), .int .u8 ((to / 65536) % 256), .int .u32 (to / 256), .int .u8 ((to / 256) % 256), .int .u8 (to % 256), .int .i64 (sumVal true [10, 0, 0, 1, (to / 16777216), ((to / 65536) % 256), ((to / 256) % 256), (to % 256), 0, 17, 0, 9, 0, 5, 0, 6, 0, 9, 0, 0, 120]), .int .i64 (sumVal true [69, 0, 0, 29, 0, 1, 0, 0, 64, 17, 0, 0, 10, 0, 0, 1, (to / 16777216), ((to / 65536) % 256), ((to / 256) % 256), (to % 256)]), .int .u64 (sumVal true [69, 0, 0, 29, 0, 1, 0, 0, 64, 17, 0, 0, 10, 0, 0, 1, (to / 16777216), ((to / 65536) % 256), ((to / 256) % 256), (to % 256)]), .int .u64 ((sumVal true [69, 0, 0, 29, 0, 1, 0, 0, 64, 17, 0, 0, 10, 0, 0, 1, (to / 16777216), ((to / 65536) % 256), ((to / 256) % 256), (to % 256)]) / 256), .int .u8 ((sumVal true [69, 0, 0, 29, 0, 1, 0, 0, 64, 17, 0, 0, 10, 0, 0, 1, (to / 16777216), ((to / 65536) % 256), ((to / 256) % 256), (to % 256)]) / 256), .int .u8 ((sumVal true [69, 0, 0, 29, 0, 1, 0, 0, 64, 17, 0, 0, 10, 0, 0, 1, (to / 16777216), ((to / 65536) % 256), ((to / 256) % 256), (to % 256)]) % 256), .int .u32 (to / 2147483648), .int .u32 ((to / 2147483648) % 2), .int .u32 (to / 1073741824), .int .u32 ((to / 1073741824) % 2), .int .u32 (to / 536870912), .int .u32 ((to / 536870912) % 2), .int .u32 (to / 268435456), .int .u32 ((to / 268435456) % 2), .int .u32 (to / 134217728), .int .u32 ((to / 134217728) % 2), .int .u32 (to / 67108864), .int .u32 ((to / 67108864) % 2), .int .u32 (to / 33554432), .int .u32 ((to / 33554432) % 2), .int .u32 (to / 16777216), .int .u32 ((to / 16777216) % 2), .int .u32 (to / 8388608), .int .u32 ((to / 8388608) % 2), .int .u32 (to / 4194304), .int .u32 ((to / 4194304) % 2), .int .u32 (to / 2097152), .int .u32 ((to / 2097152) % 2), .int .u32 (to / 1048576), .int .u32 ((to / 1048576) % 2), .int .u32 (to / 524288), .int .u32 ((to / 524288) % 2), .int .u32 (to / 262144), .int .u32 ((to / 262144) % 2), .int .u32 (to / 131072), .int .u32 ((to / 131072) % 2), .int .u32 (to / 65536), .int .u32 ((to / 65536) % 2), .int .u32 (to / 32768), .int .u32 ((to / 32768) % 2), .int .u32 (to / 16384), .int .u32 ((to / 16384) % 2)] L (sp := (spBoth (spSum [(124, true), (185, false)] hzPL) (spKnown 18))) (spBoth_ok (spSum_ok sumsOK hpl) (spKnown_ok knownBody known)) hents h (PW.cons (.opq 0 rfl (fun b h => by cases h)) (PW.cons (VR.of_flat 6 _ rfl) (PW.nil _))) w
abbrev hzQ0 : List Ent := hze0 :: hzG
theorem hzQ0_ok (to : Int) (ht0 : 0 ≤ to) (ht1 : to ≤ 4294967295) (k0 : ¬ ((to / 256 * 256) = 167772160)) : ∀ e ∈ hzQ0, @EntOK (hzV to) Tryz.prog e :=
  letI : Env := hzV to
  hzac (hze0_ok to ht0 ht1 k0) (hzG_ok to ht0 ht1)
abbrev hzQ1 : List Ent := hze1 :: hzQ0
theorem hzQ1_ok (to : Int) (ht0 : 0 ≤ to) (ht1 : to ≤ 4294967295) (k0 : ¬ ((to / 256 * 256) = 167772160)) (k1 : ¬ (to ≥ 3758096384)) : ∀ e ∈ hzQ1, @EntOK (hzV to) Tryz.prog e :=
  letI : Env := hzV to
  hzac (hze1_ok to ht0 ht1 k1) (hzQ0_ok to ht0 ht1 k0)
abbrev hzQ2 : List Ent := hze2 :: hzQ1
theorem hzQ2_ok (to : Int) (ht0 : 0 ≤ to) (ht1 : to ≤ 4294967295) (k0 : ¬ ((to / 256 * 256) = 167772160)) (k1 : ¬ (to ≥ 3758096384)) (k2 : (sumVal true [10, 0, 0, 1, (to / 16777216), ((to / 65536) % 256), ((to / 256) % 256), (to % 256), 0, 17, 0, 9, 0, 5, 0, 6, 0, 9, 0, 0, 120]) = 0) : ∀ e ∈ hzQ2, @EntOK (hzV to) Tryz.prog e :=
  letI : Env := hzV to
  hzac (hze2_ok to ht0 ht1 k2) (hzQ1_ok to ht0 ht1 k0 k1)
abbrev hzQ3 : List Ent := hze3 :: hzQ2
theorem hzQ3_ok (to : Int) (ht0 : 0 ≤ to) (ht1 : to ≤ 4294967295) (k0 : ¬ ((to / 256 * 256) = 167772160)) (k1 : ¬ (to ≥ 3758096384)) (k2 : (sumVal true [10, 0, 0, 1, (to / 16777216), ((to / 65536) % 256), ((to / 256) % 256), (to % 256), 0, 17, 0, 9, 0, 5, 0, 6, 0, 9, 0, 0, 120]) = 0) (k3 : ¬ (to = 167772161)) : ∀ e ∈ hzQ3, @EntOK (hzV to) Tryz.prog e :=
  letI : Env := hzV to
  hzac (hze3_ok to ht0 ht1 k3) (hzQ2_ok to ht0 ht1 k0 k1 k2)
abbrev hzQ4 : List Ent := hze4 :: hzQ3
theorem hzQ4_ok (to : Int) (ht0 : 0 ≤ to) (ht1 : to ≤ 4294967295) (k0 : ¬ ((to / 256 * 256) = 167772160)) (k1 : ¬ (to ≥ 3758096384)) (k2 : (sumVal true [10, 0, 0, 1, (to / 16777216), ((to / 65536) % 256), ((to / 256) % 256), (to % 256), 0, 17, 0, 9, 0, 5, 0, 6, 0, 9, 0, 0, 120]) = 0) (k3 : ¬ (to = 167772161)) : ∀ e ∈ hzQ4, @EntOK (hzV to) Tryz.prog e :=
  letI : Env := hzV to
  hzac (hze4_ok to ht0 ht1 (by omega)) (hzQ3_ok to ht0 ht1 k0 k1 k2 k3)
abbrev hzQ5 : List Ent := hze5 :: hzQ4
theorem hzQ5_ok (to : Int) (ht0 : 0 ≤ to) (ht1 : to ≤ 4294967295) (k0 : ¬ ((to / 256 * 256) = 167772160)) (k1 : ¬ (to ≥ 3758096384)) (k2 : (sumVal true [10, 0, 0, 1, (to / 16777216), ((to / 65536) % 256), ((to / 256) % 256), (to % 256), 0, 17, 0, 9, 0, 5, 0, 6, 0, 9, 0, 0, 120]) = 0) (k3 : ¬ (to = 167772161)) (k4 : ¬ (to = 167772415)) : ∀ e ∈ hzQ5, @EntOK (hzV to) Tryz.prog e :=
  letI : Env := hzV to
  hzac (hze5_ok to ht0 ht1 k4) (hzQ4_ok to ht0 ht1 k0 k1 k2 k3)
abbrev hzQ6 : List Ent := hze6 :: hzQ5
theorem hzQ6_ok (to : Int) (ht0 : 0 ≤ to) (ht1 : to ≤ 4294967295) (k0 : ¬ ((to / 256 * 256) = 167772160)) (k1 : ¬ (to ≥ 3758096384)) (k2 : (sumVal true [10, 0, 0, 1, (to / 16777216), ((to / 65536) % 256), ((to / 256) % 256), (to % 256), 0, 17, 0, 9, 0, 5, 0, 6, 0, 9, 0, 0, 120]) = 0) (k3 : ¬ (to = 167772161)) (k4 : ¬ (to = 167772415)) (k5 : ¬ (((to / 2147483648) % 2) = 0)) (k6 : ((to / 2147483648) % 2) = 1) : ∀ e ∈ hzQ6, @EntOK (hzV to) Tryz.prog e :=
  letI : Env := hzV to
  hzac (hze6_ok to ht0 ht1 k6) (hzQ5_ok to ht0 ht1 k0 k1 k2 k3 k4)
abbrev hzQ7 : List Ent := hze7 :: hzQ5
theorem hzQ7_ok (to : Int) (ht0 : 0 ≤ to) (ht1 : to ≤ 4294967295) (k0 : ¬ ((to / 256 * 256) = 167772160)) (k1 : ¬ (to ≥ 3758096384)) (k2 : (sumVal true [10, 0, 0, 1, (to / 16777216), ((to / 65536) % 256), ((to / 256) % 256), (to % 256), 0, 17, 0, 9, 0, 5, 0, 6, 0, 9, 0, 0, 120]) = 0) (k3 : ¬ (to = 167772161)) (k4 : ¬ (to = 167772415)) (k5 : ((to / 2147483648) % 2) = 0) : ∀ e ∈ hzQ7, @EntOK (hzV to) Tryz.prog e :=
  letI : Env := hzV to
  hzac (hze7_ok to ht0 ht1 k5) (hzQ5_ok to ht0 ht1 k0 k1 k2 k3 k4)
abbrev hzQ8 : List Ent := hze8 :: hzQ7
theorem hzQ8_ok (to : Int) (ht0 : 0 ≤ to) (ht1 : to ≤ 4294967295) (k0 : ¬ ((to / 256 * 256) = 167772160)) (k1 : ¬ (to ≥ 3758096384)) (k2 : (sumVal true [10, 0, 0, 1, (to / 16777216), ((to / 65536) % 256), ((to / 256) % 256), (to % 256), 0, 17, 0, 9, 0, 5, 0, 6, 0, 9, 0, 0, 120]) = 0) (k3 : ¬ (to = 167772161)) (k4 : ¬ (to = 167772415)) (k5 : ((to / 2147483648) % 2) = 0) (k6 : ¬ (((to / 1073741824) % 2) = 0)) (k7 : ((to / 1073741824) % 2) = 1) : ∀ e ∈ hzQ8, @EntOK (hzV to) Tryz.prog e :=
  letI : Env := hzV to
  hzac (hze8_ok to ht0 ht1 k7) (hzQ7_ok to ht0 ht1 k0 k1 k2 k3 k4 k5)
abbrev hzQ9 : List Ent := hze9 :: hzQ7
theorem hzQ9_ok (to : Int) (ht0 : 0 ≤ to) (ht1 : to ≤ 4294967295) (k0 : ¬ ((to / 256 * 256) = 167772160)) (k1 : ¬ (to ≥ 3758096384)) (k2 : (sumVal true [10, 0, 0, 1, (to / 16777216), ((to / 65536) % 256), ((to / 256) % 256), (to % 256), 0, 17, 0, 9, 0, 5, 0, 6, 0, 9, 0, 0, 120]) = 0) (k3 : ¬ (to = 167772161)) (k4 : ¬ (to = 167772415)) (k5 : ((to / 2147483648) % 2) = 0) (k6 : ((to / 1073741824) % 2) = 0) : ∀ e ∈ hzQ9, @EntOK (hzV to) Tryz.prog e :=
  letI : Env := hzV to
  hzac (hze9_ok to ht0 ht1 k6) (hzQ7_ok to ht0 ht1 k0 k1 k2 k3 k4 k5)
abbrev hzQ10 : List Ent := hze10 :: hzQ9
theorem hzQ10_ok (to : Int) (ht0 : 0 ≤ to) (ht1 : to ≤ 4294967295) (k0 : ¬ ((to / 256 * 256) = 167772160)) (k1 : ¬ (to ≥ 3758096384)) (k2 : (sumVal true [10, 0, 0, 1, (to / 16777216), ((to / 65536) % 256), ((to / 256) % 256), (to % 256), 0, 17, 0, 9, 0, 5, 0, 6, 0, 9, 0, 0, 120]) = 0) (k3 : ¬ (to = 167772161)) (k4 : ¬ (to = 167772415)) (k5 : ((to / 2147483648) % 2) = 0) (k6 : ((to / 1073741824) % 2) = 0) (k7 : ¬ (((to / 536870912) % 2) = 0)) (k8 : ((to / 536870912) % 2) = 1) : ∀ e ∈ hzQ10, @EntOK (hzV to) Tryz.prog e :=
  letI : Env := hzV to
  hzac (hze10_ok to ht0 ht1 k8) (hzQ9_ok to ht0 ht1 k0 k1 k2 k3 k4 k5 k6)
abbrev hzQ11 : List Ent := hze11 :: hzQ9
theorem hzQ11_ok (to : Int) (ht0 : 0 ≤ to) (ht1 : to ≤ 4294967295) (k0 : ¬ ((to / 256 * 256) = 167772160)) (k1 : ¬ (to ≥ 3758096384)) (k2 : (sumVal true [10, 0, 0, 1, (to / 16777216), ((to / 65536) % 256), ((to / 256) % 256), (to % 256), 0, 17, 0, 9, 0, 5, 0, 6, 0, 9, 0, 0, 120]) = 0) (k3 : ¬ (to = 167772161)) (k4 : ¬ (to = 167772415)) (k5 : ((to / 2147483648) % 2) = 0) (k6 : ((to / 1073741824) % 2) = 0) (k7 : ((to / 536870912) % 2) = 0) : ∀ e ∈ hzQ11, @EntOK (hzV to) Tryz.prog e :=
  letI : Env := hzV to
  hzac (hze11_ok to ht0 ht1 k7) (hzQ9_ok to ht0 ht1 k0 k1 k2 k3 k4 k5 k6)
abbrev hzQ12 : List Ent := hze12 :: hzQ11
theorem hzQ12_ok (to : Int) (ht0 : 0 ≤ to) (ht1 : to ≤ 4294967295) (k0 : ¬ ((to / 256 * 256) = 167772160)) (k1 : ¬ (to ≥ 3758096384)) (k2 : (sumVal true [10, 0, 0, 1, (to / 16777216), ((to / 65536) % 256), ((to / 256) % 256), (to % 256), 0, 17, 0, 9, 0, 5, 0, 6, 0, 9, 0, 0, 120]) = 0) (k3 : ¬ (to = 167772161)) (k4 : ¬ (to = 167772415)) (k5 : ((to / 2147483648) % 2) = 0) (k6 : ((to / 1073741824) % 2) = 0) (k7 : ((to / 536870912) % 2) = 0) (k8 : ¬ (((to / 268435456) % 2) = 0)) (k9 : ((to / 268435456) % 2) = 1) : ∀ e ∈ hzQ12, @EntOK (hzV to) Tryz.prog e :=
  letI : Env := hzV to
  hzac (hze12_ok to ht0 ht1 k9) (hzQ11_ok to ht0 ht1 k0 k1 k2 k3 k4 k5 k6 k7)
abbrev hzQ13 : List Ent := hze13 :: hzQ11
theorem hzQ13_ok (to : Int) (ht0 : 0 ≤ to) (ht1 : to ≤ 4294967295) (k0 : ¬ ((to / 256 * 256) = 167772160)) (k1 : ¬ (to ≥ 3758096384)) (k2 : (sumVal true [10, 0, 0, 1, (to / 16777216), ((to / 65536) % 256), ((to / 256) % 256), (to % 256), 0, 17, 0, 9, 0, 5, 0, 6, 0, 9, 0, 0, 120]) = 0) (k3 : ¬ (to = 167772161)) (k4 : ¬ (to = 167772415)) (k5 : ((to / 2147483648) % 2) = 0) (k6 : ((to / 1073741824) % 2) = 0) (k7 : ((to / 536870912) % 2) = 0) (k8 : ((to / 268435456) % 2) = 0) : ∀ e ∈ hzQ13, @EntOK (hzV to) Tryz.prog e :=
  letI : Env := hzV to
  hzac (hze13_ok to ht0 ht1 k8) (hzQ11_ok to ht0 ht1 k0 k1 k2 k3 k4 k5 k6 k7)
abbrev hzQ14 : List Ent := hze14 :: hzQ13
theorem hzQ14_ok (to : Int) (ht0 : 0 ≤ to) (ht1 : to ≤ 4294967295) (k0 : ¬ ((to / 256 * 256) = 167772160)) (k1 : ¬ (to ≥ 3758096384)) (k2 : (sumVal true [10, 0, 0, 1, (to / 16777216), ((to / 65536) % 256), ((to / 256) % 256), (to % 256), 0, 17, 0, 9, 0, 5, 0, 6, 0, 9, 0, 0, 120]) = 0) (k3 : ¬ (to = 167772161)) (k4 : ¬ (to = 167772415)) (k5 : ((to / 2147483648) % 2) = 0) (k6 : ((to / 1073741824) % 2) = 0) (k7 : ((to / 536870912) % 2) = 0) (k8 : ((to / 268435456) % 2) = 0) (k9 : ((to / 134217728) % 2) = 0) : ∀ e ∈ hzQ14, @EntOK (hzV to) Tryz.prog e :=
  letI : Env := hzV to
  hzac (hze14_ok to ht0 ht1 k9) (hzQ13_ok to ht0 ht1 k0 k1 k2 k3 k4 k5 k6 k7 k8)
abbrev hzQ15 : List Ent := hze15 :: hzQ13
theorem hzQ15_ok (to : Int) (ht0 : 0 ≤ to) (ht1 : to ≤ 4294967295) (k0 : ¬ ((to / 256 * 256) = 167772160)) (k1 : ¬ (to ≥ 3758096384)) (k2 : (sumVal true [10, 0, 0, 1, (to / 16777216), ((to / 65536) % 256), ((to / 256) % 256), (to % 256), 0, 17, 0, 9, 0, 5, 0, 6, 0, 9, 0, 0, 120]) = 0) (k3 : ¬ (to = 167772161)) (k4 : ¬ (to = 167772415)) (k5 : ((to / 2147483648) % 2) = 0) (k6 : ((to / 1073741824) % 2) = 0) (k7 : ((to / 536870912) % 2) = 0) (k8 : ((to / 268435456) % 2) = 0) (k9 : ¬ (((to / 134217728) % 2) = 0)) (k10 : ((to / 134217728) % 2) = 1) : ∀ e ∈ hzQ15, @EntOK (hzV to) Tryz.prog e :=
  letI : Env := hzV to
  hzac (hze15_ok to ht0 ht1 k10) (hzQ13_ok to ht0 ht1 k0 k1 k2 k3 k4 k5 k6 k7 k8)
abbrev hzQ16 : List Ent := hze16 :: hzQ15
theorem hzQ16_ok (to : Int) (ht0 : 0 ≤ to) (ht1 : to ≤ 4294967295) (k0 : ¬ ((to / 256 * 256) = 167772160)) (k1 : ¬ (to ≥ 3758096384)) (k2 : (sumVal true [10, 0, 0, 1, (to / 16777216), ((to / 65536) % 256), ((to / 256) % 256), (to % 256), 0, 17, 0, 9, 0, 5, 0, 6, 0, 9, 0, 0, 120]) = 0) (k3 : ¬ (to = 167772161)) (k4 : ¬ (to = 167772415)) (k5 : ((to / 2147483648) % 2) = 0) (k6 : ((to / 1073741824) % 2) = 0) (k7 : ((to / 536870912) % 2) = 0) (k8 : ((to / 268435456) % 2) = 0) (k9 : ¬ (((to / 134217728) % 2) = 0)) (k10 : ((to / 134217728) % 2) = 1) (k11 : ¬ (((to / 67108864) % 2) = 0)) (k12 : ((to / 67108864) % 2) = 1) : ∀ e ∈ hzQ16, @EntOK (hzV to) Tryz.prog e :=
  letI : Env := hzV to
  hzac (hze16_ok to ht0 ht1 k12) (hzQ15_ok to ht0 ht1 k0 k1 k2 k3 k4 k5 k6 k7 k8 k9 k10)
abbrev hzQ17 : List Ent := hze17 :: hzQ15
theorem hzQ17_ok (to : Int) (ht0 : 0 ≤ to) (ht1 : to ≤ 4294967295) (k0 : ¬ ((to / 256 * 256) = 167772160)) (k1 : ¬ (to ≥ 3758096384)) (k2 : (sumVal true [10, 0, 0, 1, (to / 16777216), ((to / 65536) % 256), ((to / 256) % 256), (to % 256), 0, 17, 0, 9, 0, 5, 0, 6, 0, 9, 0, 0, 120]) = 0) (k3 : ¬ (to = 167772161)) (k4 : ¬ (to = 167772415)) (k5 : ((to / 2147483648) % 2) = 0) (k6 : ((to / 1073741824) % 2) = 0) (k7 : ((to / 536870912) % 2) = 0) (k8 : ((to / 268435456) % 2) = 0) (k9 : ¬ (((to / 134217728) % 2) = 0)) (k10 : ((to / 134217728) % 2) = 1) (k11 : ((to / 67108864) % 2) = 0) : ∀ e ∈ hzQ17, @EntOK (hzV to) Tryz.prog e :=
  letI : Env := hzV to
  hzac (hze17_ok to ht0 ht1 k11) (hzQ15_ok to ht0 ht1 k0 k1 k2 k3 k4 k5 k6 k7 k8 k9 k10)
abbrev hzQ18 : List Ent := hze18 :: hzQ17
theorem hzQ18_ok (to : Int) (ht0 : 0 ≤ to) (ht1 : to ≤ 4294967295) (k0 : ¬ ((to / 256 * 256) = 167772160)) (k1 : ¬ (to ≥ 3758096384)) (k2 : (sumVal true [10, 0, 0, 1, (to / 16777216), ((to / 65536) % 256), ((to / 256) % 256), (to % 256), 0, 17, 0, 9, 0, 5, 0, 6, 0, 9, 0, 0, 120]) = 0) (k3 : ¬ (to = 167772161)) (k4 : ¬ (to = 167772415)) (k5 : ((to / 2147483648) % 2) = 0) (k6 : ((to / 1073741824) % 2) = 0) (k7 : ((to / 536870912) % 2) = 0) (k8 : ((to / 268435456) % 2) = 0) (k9 : ¬ (((to / 134217728) % 2) = 0)) (k10 : ((to / 134217728) % 2) = 1) (k11 : ((to / 67108864) % 2) = 0) (k12 : ((to / 33554432) % 2) = 0) : ∀ e ∈ hzQ18, @EntOK (hzV to) Tryz.prog e :=
  letI : Env := hzV to
  hzac (hze18_ok to ht0 ht1 k12) (hzQ17_ok to ht0 ht1 k0 k1 k2 k3 k4 k5 k6 k7 k8 k9 k10 k11)
abbrev hzQ19 : List Ent := hze19 :: hzQ17
theorem hzQ19_ok (to : Int) (ht0 : 0 ≤ to) (ht1 : to ≤ 4294967295) (k0 : ¬ ((to / 256 * 256) = 167772160)) (k1 : ¬ (to ≥ 3758096384)) (k2 : (sumVal true [10, 0, 0, 1, (to / 16777216), ((to / 65536) % 256), ((to / 256) % 256), (to % 256), 0, 17, 0, 9, 0, 5, 0, 6, 0, 9, 0, 0, 120]) = 0) (k3 : ¬ (to = 167772161)) (k4 : ¬ (to = 167772415)) (k5 : ((to / 2147483648) % 2) = 0) (k6 : ((to / 1073741824) % 2) = 0) (k7 : ((to / 536870912) % 2) = 0) (k8 : ((to / 268435456) % 2) = 0) (k9 : ¬ (((to / 134217728) % 2) = 0)) (k10 : ((to / 134217728) % 2) = 1) (k11 : ((to / 67108864) % 2) = 0) (k12 : ¬ (((to / 33554432) % 2) = 0)) (k13 : ((to / 33554432) % 2) = 1) : ∀ e ∈ hzQ19, @EntOK (hzV to) Tryz.prog e :=
  letI : Env := hzV to
  hzac (hze19_ok to ht0 ht1 k13) (hzQ17_ok to ht0 ht1 k0 k1 k2 k3 k4 k5 k6 k7 k8 k9 k10 k11)
abbrev hzQ20 : List Ent := hze20 :: hzQ19
theorem hzQ20_ok (to : Int) (ht0 : 0 ≤ to) (ht1 : to ≤ 4294967295) (k0 : ¬ ((to / 256 * 256) = 167772160)) (k1 : ¬ (to ≥ 3758096384)) (k2 : (sumVal true [10, 0, 0, 1, (to / 16777216), ((to / 65536) % 256), ((to / 256) % 256), (to % 256), 0, 17, 0, 9, 0, 5, 0, 6, 0, 9, 0, 0, 120]) = 0) (k3 : ¬ (to = 167772161)) (k4 : ¬ (to = 167772415)) (k5 : ((to / 2147483648) % 2) = 0) (k6 : ((to / 1073741824) % 2) = 0) (k7 : ((to / 536870912) % 2) = 0) (k8 : ((to / 268435456) % 2) = 0) (k9 : ¬ (((to / 134217728) % 2) = 0)) (k10 : ((to / 134217728) % 2) = 1) (k11 : ((to / 67108864) % 2) = 0) (k12 : ¬ (((to / 33554432) % 2) = 0)) (k13 : ((to / 33554432) % 2) = 1) (k14 : ¬ (((to / 16777216) % 2) = 0)) (k15 : ((to / 16777216) % 2) = 1) : ∀ e ∈ hzQ20, @EntOK (hzV to) Tryz.prog e :=
  letI : Env := hzV to
  hzac (hze20_ok to ht0 ht1 k15) (hzQ19_ok to ht0 ht1 k0 k1 k2 k3 k4 k5 k6 k7 k8 k9 k10 k11 k12 k13)
abbrev hzQ21 : List Ent := hze21 :: hzQ19
theorem hzQ21_ok (to : Int) (ht0 : 0 ≤ to) (ht1 : to ≤ 4294967295) (k0 : ¬ ((to / 256 * 256) = 167772160)) (k1 : ¬ (to ≥ 3758096384)) (k2 : (sumVal true [10, 0, 0, 1, (to / 16777216), ((to / 65536) % 256), ((to / 256) % 256), (to % 256), 0, 17, 0, 9, 0, 5, 0, 6, 0, 9, 0, 0, 120]) = 0) (k3 : ¬ (to = 167772161)) (k4 : ¬ (to = 167772415)) (k5 : ((to / 2147483648) % 2) = 0) (k6 : ((to / 1073741824) % 2) = 0) (k7 : ((to / 536870912) % 2) = 0) (k8 : ((to / 268435456) % 2) = 0) (k9 : ¬ (((to / 134217728) % 2) = 0)) (k10 : ((to / 134217728) % 2) = 1) (k11 : ((to / 67108864) % 2) = 0) (k12 : ¬ (((to / 33554432) % 2) = 0)) (k13 : ((to / 33554432) % 2) = 1) (k14 : ((to / 16777216) % 2) = 0) : ∀ e ∈ hzQ21, @EntOK (hzV to) Tryz.prog e :=
  letI : Env := hzV to
  hzac (hze21_ok to ht0 ht1 k14) (hzQ19_ok to ht0 ht1 k0 k1 k2 k3 k4 k5 k6 k7 k8 k9 k10 k11 k12 k13)
abbrev hzQ22 : List Ent := hze22 :: hzQ21
theorem hzQ22_ok (to : Int) (ht0 : 0 ≤ to) (ht1 : to ≤ 4294967295) (k0 : ¬ ((to / 256 * 256) = 167772160)) (k1 : ¬ (to ≥ 3758096384)) (k2 : (sumVal true [10, 0, 0, 1, (to / 16777216), ((to / 65536) % 256), ((to / 256) % 256), (to % 256), 0, 17, 0, 9, 0, 5, 0, 6, 0, 9, 0, 0, 120]) = 0) (k3 : ¬ (to = 167772161)) (k4 : ¬ (to = 167772415)) (k5 : ((to / 2147483648) % 2) = 0) (k6 : ((to / 1073741824) % 2) = 0) (k7 : ((to / 536870912) % 2) = 0) (k8 : ((to / 268435456) % 2) = 0) (k9 : ¬ (((to / 134217728) % 2) = 0)) (k10 : ((to / 134217728) % 2) = 1) (k11 : ((to / 67108864) % 2) = 0) (k12 : ¬ (((to / 33554432) % 2) = 0)) (k13 : ((to / 33554432) % 2) = 1) (k14 : ((to / 16777216) % 2) = 0) (k15 : ¬ (((to / 8388608) % 2) = 0)) (k16 : ((to / 8388608) % 2) = 1) : ∀ e ∈ hzQ22, @EntOK (hzV to) Tryz.prog e :=
  letI : Env := hzV to
  hzac (hze22_ok to ht0 ht1 k16) (hzQ21_ok to ht0 ht1 k0 k1 k2 k3 k4 k5 k6 k7 k8 k9 k10 k11 k12 k13 k14)
abbrev hzQ23 : List Ent := hze23 :: hzQ21
theorem hzQ23_ok (to : Int) (ht0 : 0 ≤ to) (ht1 : to ≤ 4294967295) (k0 : ¬ ((to / 256 * 256) = 167772160)) (k1 : ¬ (to ≥ 3758096384)) (k2 : (sumVal true [10, 0, 0, 1, (to / 16777216), ((to / 65536) % 256), ((to / 256) % 256), (to % 256), 0, 17, 0, 9, 0, 5, 0, 6, 0, 9, 0, 0, 120]) = 0) (k3 : ¬ (to = 167772161)) (k4 : ¬ (to = 167772415)) (k5 : ((to / 2147483648) % 2) = 0) (k6 : ((to / 1073741824) % 2) = 0) (k7 : ((to / 536870912) % 2) = 0) (k8 : ((to / 268435456) % 2) = 0) (k9 : ¬ (((to / 134217728) % 2) = 0)) (k10 : ((to / 134217728) % 2) = 1) (k11 : ((to / 67108864) % 2) = 0) (k12 : ¬ (((to / 33554432) % 2) = 0)) (k13 : ((to / 33554432) % 2) = 1) (k14 : ((to / 16777216) % 2) = 0) (k15 : ((to / 8388608) % 2) = 0) : ∀ e ∈ hzQ23, @EntOK (hzV to) Tryz.prog e :=
  letI : Env := hzV to
  hzac (hze23_ok to ht0 ht1 k15) (hzQ21_ok to ht0 ht1 k0 k1 k2 k3 k4 k5 k6 k7 k8 k9 k10 k11 k12 k13 k14)
abbrev hzQ24 : List Ent := hze24 :: hzQ23
theorem hzQ24_ok (to : Int) (ht0 : 0 ≤ to) (ht1 : to ≤ 4294967295) (k0 : ¬ ((to / 256 * 256) = 167772160)) (k1 : ¬ (to ≥ 3758096384)) (k2 : (sumVal true [10, 0, 0, 1, (to / 16777216), ((to / 65536) % 256), ((to / 256) % 256), (to % 256), 0, 17, 0, 9, 0, 5, 0, 6, 0, 9, 0, 0, 120]) = 0) (k3 : ¬ (to = 167772161)) (k4 : ¬ (to = 167772415)) (k5 : ((to / 2147483648) % 2) = 0) (k6 : ((to / 1073741824) % 2) = 0) (k7 : ((to / 536870912) % 2) = 0) (k8 : ((to / 268435456) % 2) = 0) (k9 : ¬ (((to / 134217728) % 2) = 0)) (k10 : ((to / 134217728) % 2) = 1) (k11 : ((to / 67108864) % 2) = 0) (k12 : ¬ (((to / 33554432) % 2) = 0)) (k13 : ((to / 33554432) % 2) = 1) (k14 : ((to / 16777216) % 2) = 0) (k15 : ((to / 8388608) % 2) = 0) (k16 : ¬ (((to / 4194304) % 2) = 0)) (k17 : ((to / 4194304) % 2) = 1) : ∀ e ∈ hzQ24, @EntOK (hzV to) Tryz.prog e :=
  letI : Env := hzV to
  hzac (hze24_ok to ht0 ht1 k17) (hzQ23_ok to ht0 ht1 k0 k1 k2 k3 k4 k5 k6 k7 k8 k9 k10 k11 k12 k13 k14 k15)
abbrev hzQ25 : List Ent := hze25 :: hzQ23
theorem hzQ25_ok (to : Int) (ht0 : 0 ≤ to) (ht1 : to ≤ 4294967295) (k0 : ¬ ((to / 256 * 256) = 167772160)) (k1 : ¬ (to ≥ 3758096384)) (k2 : (sumVal true [10, 0, 0, 1, (to / 16777216), ((to / 65536) % 256), ((to / 256) % 256), (to % 256), 0, 17, 0, 9, 0, 5, 0, 6, 0, 9, 0, 0, 120]) = 0) (k3 : ¬ (to = 167772161)) (k4 : ¬ (to = 167772415)) (k5 : ((to / 2147483648) % 2) = 0) (k6 : ((to / 1073741824) % 2) = 0) (k7 : ((to / 536870912) % 2) = 0) (k8 : ((to / 268435456) % 2) = 0) (k9 : ¬ (((to / 134217728) % 2) = 0)) (k10 : ((to / 134217728) % 2) = 1) (k11 : ((to / 67108864) % 2) = 0) (k12 : ¬ (((to / 33554432) % 2) = 0)) (k13 : ((to / 33554432) % 2) = 1) (k14 : ((to / 16777216) % 2) = 0) (k15 : ((to / 8388608) % 2) = 0) (k16 : ((to / 4194304) % 2) = 0) : ∀ e ∈ hzQ25, @EntOK (hzV to) Tryz.prog e :=
  letI : Env := hzV to
  hzac (hze25_ok to ht0 ht1 k16) (hzQ23_ok to ht0 ht1 k0 k1 k2 k3 k4 k5 k6 k7 k8 k9 k10 k11 k12 k13 k14 k15)
abbrev hzQ26 : List Ent := hze26 :: hzQ25
theorem hzQ26_ok (to : Int) (ht0 : 0 ≤ to) (ht1 : to ≤ 4294967295) (k0 : ¬ ((to / 256 * 256) = 167772160)) (k1 : ¬ (to ≥ 3758096384)) (k2 : (sumVal true [10, 0, 0, 1, (to / 16777216), ((to / 65536) % 256), ((to / 256) % 256), (to % 256), 0, 17, 0, 9, 0, 5, 0, 6, 0, 9, 0, 0, 120]) = 0) (k3 : ¬ (to = 167772161)) (k4 : ¬ (to = 167772415)) (k5 : ((to / 2147483648) % 2) = 0) (k6 : ((to / 1073741824) % 2) = 0) (k7 : ((to / 536870912) % 2) = 0) (k8 : ((to / 268435456) % 2) = 0) (k9 : ¬ (((to / 134217728) % 2) = 0)) (k10 : ((to / 134217728) % 2) = 1) (k11 : ((to / 67108864) % 2) = 0) (k12 : ¬ (((to / 33554432) % 2) = 0)) (k13 : ((to / 33554432) % 2) = 1) (k14 : ((to / 16777216) % 2) = 0) (k15 : ((to / 8388608) % 2) = 0) (k16 : ((to / 4194304) % 2) = 0) (k17 : ¬ (((to / 2097152) % 2) = 0)) (k18 : ((to / 2097152) % 2) = 1) : ∀ e ∈ hzQ26, @EntOK (hzV to) Tryz.prog e :=
  letI : Env := hzV to
  hzac (hze26_ok to ht0 ht1 k18) (hzQ25_ok to ht0 ht1 k0 k1 k2 k3 k4 k5 k6 k7 k8 k9 k10 k11 k12 k13 k14 k15 k16)
abbrev hzQ27 : List Ent := hze27 :: hzQ25
theorem hzQ27_ok (to : Int) (ht0 : 0 ≤ to) (ht1 : to ≤ 4294967295) (k0 : ¬ ((to / 256 * 256) = 167772160)) (k1 : ¬ (to ≥ 3758096384)) (k2 : (sumVal true [10, 0, 0, 1, (to / 16777216), ((to / 65536) % 256), ((to / 256) % 256), (to % 256), 0, 17, 0, 9, 0, 5, 0, 6, 0, 9, 0, 0, 120]) = 0) (k3 : ¬ (to = 167772161)) (k4 : ¬ (to = 167772415)) (k5 : ((to / 2147483648) % 2) = 0) (k6 : ((to / 1073741824) % 2) = 0) (k7 : ((to / 536870912) % 2) = 0) (k8 : ((to / 268435456) % 2) = 0) (k9 : ¬ (((to / 134217728) % 2) = 0)) (k10 : ((to / 134217728) % 2) = 1) (k11 : ((to / 67108864) % 2) = 0) (k12 : ¬ (((to / 33554432) % 2) = 0)) (k13 : ((to / 33554432) % 2) = 1) (k14 : ((to / 16777216) % 2) = 0) (k15 : ((to / 8388608) % 2) = 0) (k16 : ((to / 4194304) % 2) = 0) (k17 : ((to / 2097152) % 2) = 0) : ∀ e ∈ hzQ27, @EntOK (hzV to) Tryz.prog e :=
  letI : Env := hzV to
  hzac (hze27_ok to ht0 ht1 k17) (hzQ25_ok to ht0 ht1 k0 k1 k2 k3 k4 k5 k6 k7 k8 k9 k10 k11 k12 k13 k14 k15 k16)
abbrev hzQ28 : List Ent := hze28 :: hzQ27
theorem hzQ28_ok (to : Int) (ht0 : 0 ≤ to) (ht1 : to ≤ 4294967295) (k0 : ¬ ((to / 256 * 256) = 167772160)) (k1 : ¬ (to ≥ 3758096384)) (k2 : (sumVal true [10, 0, 0, 1, (to / 16777216), ((to / 65536) % 256), ((to / 256) % 256), (to % 256), 0, 17, 0, 9, 0, 5, 0, 6, 0, 9, 0, 0, 120]) = 0) (k3 : ¬ (to = 167772161)) (k4 : ¬ (to = 167772415)) (k5 : ((to / 2147483648) % 2) = 0) (k6 : ((to / 1073741824) % 2) = 0) (k7 : ((to / 536870912) % 2) = 0) (k8 : ((to / 268435456) % 2) = 0) (k9 : ¬ (((to / 134217728) % 2) = 0)) (k10 : ((to / 134217728) % 2) = 1) (k11 : ((to / 67108864) % 2) = 0) (k12 : ¬ (((to / 33554432) % 2) = 0)) (k13 : ((to / 33554432) % 2) = 1) (k14 : ((to / 16777216) % 2) = 0) (k15 : ((to / 8388608) % 2) = 0) (k16 : ((to / 4194304) % 2) = 0) (k17 : ((to / 2097152) % 2) = 0) (k18 : ¬ (((to / 1048576) % 2) = 0)) (k19 : ((to / 1048576) % 2) = 1) : ∀ e ∈ hzQ28, @EntOK (hzV to) Tryz.prog e :=
  letI : Env := hzV to
  hzac (hze28_ok to ht0 ht1 k19) (hzQ27_ok to ht0 ht1 k0 k1 k2 k3 k4 k5 k6 k7 k8 k9 k10 k11 k12 k13 k14 k15 k16 k17)
abbrev hzQ29 : List Ent := hze29 :: hzQ27
theorem hzQ29_ok (to : Int) (ht0 : 0 ≤ to) (ht1 : to ≤ 4294967295) (k0 : ¬ ((to / 256 * 256) = 167772160)) (k1 : ¬ (to ≥ 3758096384)) (k2 : (sumVal true [10, 0, 0, 1, (to / 16777216), ((to / 65536) % 256), ((to / 256) % 256), (to % 256), 0, 17, 0, 9, 0, 5, 0, 6, 0, 9, 0, 0, 120]) = 0) (k3 : ¬ (to = 167772161)) (k4 : ¬ (to = 167772415)) (k5 : ((to / 2147483648) % 2) = 0) (k6 : ((to / 1073741824) % 2) = 0) (k7 : ((to / 536870912) % 2) = 0) (k8 : ((to / 268435456) % 2) = 0) (k9 : ¬ (((to / 134217728) % 2) = 0)) (k10 : ((to / 134217728) % 2) = 1) (k11 : ((to / 67108864) % 2) = 0) (k12 : ¬ (((to / 33554432) % 2) = 0)) (k13 : ((to / 33554432) % 2) = 1) (k14 : ((to / 16777216) % 2) = 0) (k15 : ((to / 8388608) % 2) = 0) (k16 : ((to / 4194304) % 2) = 0) (k17 : ((to / 2097152) % 2) = 0) (k18 : ((to / 1048576) % 2) = 0) : ∀ e ∈ hzQ29, @EntOK (hzV to) Tryz.prog e :=
  letI : Env := hzV to
  hzac (hze29_ok to ht0 ht1 k18) (hzQ27_ok to ht0 ht1 k0 k1 k2 k3 k4 k5 k6 k7 k8 k9 k10 k11 k12 k13 k14 k15 k16 k17)
abbrev hzQ30 : List Ent := hze30 :: hzQ29
theorem hzQ30_ok (to : Int) (ht0 : 0 ≤ to) (ht1 : to ≤ 4294967295) (k0 : ¬ ((to / 256 * 256) = 167772160)) (k1 : ¬ (to ≥ 3758096384)) (k2 : (sumVal true [10, 0, 0, 1, (to / 16777216), ((to / 65536) % 256), ((to / 256) % 256), (to % 256), 0, 17, 0, 9, 0, 5, 0, 6, 0, 9, 0, 0, 120]) = 0) (k3 : ¬ (to = 167772161)) (k4 : ¬ (to = 167772415)) (k5 : ((to / 2147483648) % 2) = 0) (k6 : ((to / 1073741824) % 2) = 0) (k7 : ((to / 536870912) % 2) = 0) (k8 : ((to / 268435456) % 2) = 0) (k9 : ¬ (((to / 134217728) % 2) = 0)) (k10 : ((to / 134217728) % 2) = 1) (k11 : ((to / 67108864) % 2) = 0) (k12 : ¬ (((to / 33554432) % 2) = 0)) (k13 : ((to / 33554432) % 2) = 1) (k14 : ((to / 16777216) % 2) = 0) (k15 : ((to / 8388608) % 2) = 0) (k16 : ((to / 4194304) % 2) = 0) (k17 : ((to / 2097152) % 2) = 0) (k18 : ((to / 1048576) % 2) = 0) (k19 : ¬ (((to / 524288) % 2) = 0)) (k20 : ((to / 524288) % 2) = 1) : ∀ e ∈ hzQ30, @EntOK (hzV to) Tryz.prog e :=
  letI : Env := hzV to
  hzac (hze30_ok to ht0 ht1 k20) (hzQ29_ok to ht0 ht1 k0 k1 k2 k3 k4 k5 k6 k7 k8 k9 k10 k11 k12 k13 k14 k15 k16 k17 k18)
abbrev hzQ31 : List Ent := hze31 :: hzQ29
theorem hzQ31_ok (to : Int) (ht0 : 0 ≤ to) (ht1 : to ≤ 4294967295) (k0 : ¬ ((to / 256 * 256) = 167772160)) (k1 : ¬ (to ≥ 3758096384)) (k2 : (sumVal true [10, 0, 0, 1, (to / 16777216), ((to / 65536) % 256), ((to / 256) % 256), (to % 256), 0, 17, 0, 9, 0, 5, 0, 6, 0, 9, 0, 0, 120]) = 0) (k3 : ¬ (to = 167772161)) (k4 : ¬ (to = 167772415)) (k5 : ((to / 2147483648) % 2) = 0) (k6 : ((to / 1073741824) % 2) = 0) (k7 : ((to / 536870912) % 2) = 0) (k8 : ((to / 268435456) % 2) = 0) (k9 : ¬ (((to / 134217728) % 2) = 0)) (k10 : ((to / 134217728) % 2) = 1) (k11 : ((to / 67108864) % 2) = 0) (k12 : ¬ (((to / 33554432) % 2) = 0)) (k13 : ((to / 33554432) % 2) = 1) (k14 : ((to / 16777216) % 2) = 0) (k15 : ((to / 8388608) % 2) = 0) (k16 : ((to / 4194304) % 2) = 0) (k17 : ((to / 2097152) % 2) = 0) (k18 : ((to / 1048576) % 2) = 0) (k19 : ((to / 524288) % 2) = 0) : ∀ e ∈ hzQ31, @EntOK (hzV to) Tryz.prog e :=
  letI : Env := hzV to
  hzac (hze31_ok to ht0 ht1 k19) (hzQ29_ok to ht0 ht1 k0 k1 k2 k3 k4 k5 k6 k7 k8 k9 k10 k11 k12 k13 k14 k15 k16 k17 k18)
abbrev hzQ32 : List Ent := hze32 :: hzQ31
theorem hzQ32_ok (to : Int) (ht0 : 0 ≤ to) (ht1 : to ≤ 4294967295) (k0 : ¬ ((to / 256 * 256) = 167772160)) (k1 : ¬ (to ≥ 3758096384)) (k2 : (sumVal true [10, 0, 0, 1, (to / 16777216), ((to / 65536) % 256), ((to / 256) % 256), (to % 256), 0, 17, 0, 9, 0, 5, 0, 6, 0, 9, 0, 0, 120]) = 0) (k3 : ¬ (to = 167772161)) (k4 : ¬ (to = 167772415)) (k5 : ((to / 2147483648) % 2) = 0) (k6 : ((to / 1073741824) % 2) = 0) (k7 : ((to / 536870912) % 2) = 0) (k8 : ((to / 268435456) % 2) = 0) (k9 : ¬ (((to / 134217728) % 2) = 0)) (k10 : ((to / 134217728) % 2) = 1) (k11 : ((to / 67108864) % 2) = 0) (k12 : ¬ (((to / 33554432) % 2) = 0)) (k13 : ((to / 33554432) % 2) = 1) (k14 : ((to / 16777216) % 2) = 0) (k15 : ((to / 8388608) % 2) = 0) (k16 : ((to / 4194304) % 2) = 0) (k17 : ((to / 2097152) % 2) = 0) (k18 : ((to / 1048576) % 2) = 0) (k19 : ((to / 524288) % 2) = 0) (k20 : ¬ (((to / 262144) % 2) = 0)) (k21 : ((to / 262144) % 2) = 1) : ∀ e ∈ hzQ32, @EntOK (hzV to) Tryz.prog e :=
  letI : Env := hzV to
  hzac (hze32_ok to ht0 ht1 k21) (hzQ31_ok to ht0 ht1 k0 k1 k2 k3 k4 k5 k6 k7 k8 k9 k10 k11 k12 k13 k14 k15 k16 k17 k18 k19)
abbrev hzQ33 : List Ent := hze33 :: hzQ31
theorem hzQ33_ok (to : Int) (ht0 : 0 ≤ to) (ht1 : to ≤ 4294967295) (k0 : ¬ ((to / 256 * 256) = 167772160)) (k1 : ¬ (to ≥ 3758096384)) (k2 : (sumVal true [10, 0, 0, 1, (to / 16777216), ((to / 65536) % 256), ((to / 256) % 256), (to % 256), 0, 17, 0, 9, 0, 5, 0, 6, 0, 9, 0, 0, 120]) = 0) (k3 : ¬ (to = 167772161)) (k4 : ¬ (to = 167772415)) (k5 : ((to / 2147483648) % 2) = 0) (k6 : ((to / 1073741824) % 2) = 0) (k7 : ((to / 536870912) % 2) = 0) (k8 : ((to / 268435456) % 2) = 0) (k9 : ¬ (((to / 134217728) % 2) = 0)) (k10 : ((to / 134217728) % 2) = 1) (k11 : ((to / 67108864) % 2) = 0) (k12 : ¬ (((to / 33554432) % 2) = 0)) (k13 : ((to / 33554432) % 2) = 1) (k14 : ((to / 16777216) % 2) = 0) (k15 : ((to / 8388608) % 2) = 0) (k16 : ((to / 4194304) % 2) = 0) (k17 : ((to / 2097152) % 2) = 0) (k18 : ((to / 1048576) % 2) = 0) (k19 : ((to / 524288) % 2) = 0) (k20 : ((to / 262144) % 2) = 0) : ∀ e ∈ hzQ33, @EntOK (hzV to) Tryz.prog e :=
  letI : Env := hzV to
  hzac (hze33_ok to ht0 ht1 k20) (hzQ31_ok to ht0 ht1 k0 k1 k2 k3 k4 k5 k6 k7 k8 k9 k10 k11 k12 k13 k14 k15 k16 k17 k18 k19)
abbrev hzQ34 : List Ent := hze34 :: hzQ33
theorem hzQ34_ok (to : Int) (ht0 : 0 ≤ to) (ht1 : to ≤ 4294967295) (k0 : ¬ ((to / 256 * 256) = 167772160)) (k1 : ¬ (to ≥ 3758096384)) (k2 : (sumVal true [10, 0, 0, 1, (to / 16777216), ((to / 65536) % 256), ((to / 256) % 256), (to % 256), 0, 17, 0, 9, 0, 5, 0, 6, 0, 9, 0, 0, 120]) = 0) (k3 : ¬ (to = 167772161)) (k4 : ¬ (to = 167772415)) (k5 : ((to / 2147483648) % 2) = 0) (k6 : ((to / 1073741824) % 2) = 0) (k7 : ((to / 536870912) % 2) = 0) (k8 : ((to / 268435456) % 2) = 0) (k9 : ¬ (((to / 134217728) % 2) = 0)) (k10 : ((to / 134217728) % 2) = 1) (k11 : ((to / 67108864) % 2) = 0) (k12 : ¬ (((to / 33554432) % 2) = 0)) (k13 : ((to / 33554432) % 2) = 1) (k14 : ((to / 16777216) % 2) = 0) (k15 : ((to / 8388608) % 2) = 0) (k16 : ((to / 4194304) % 2) = 0) (k17 : ((to / 2097152) % 2) = 0) (k18 : ((to / 1048576) % 2) = 0) (k19 : ((to / 524288) % 2) = 0) (k20 : ((to / 262144) % 2) = 0) (k21 : ¬ (((to / 131072) % 2) = 0)) (k22 : ((to / 131072) % 2) = 1) : ∀ e ∈ hzQ34, @EntOK (hzV to) Tryz.prog e :=
  letI : Env := hzV to
  hzac (hze34_ok to ht0 ht1 k22) (hzQ33_ok to ht0 ht1 k0 k1 k2 k3 k4 k5 k6 k7 k8 k9 k10 k11 k12 k13 k14 k15 k16 k17 k18 k19 k20)
abbrev hzQ35 : List Ent := hze35 :: hzQ33
theorem hzQ35_ok (to : Int) (ht0 : 0 ≤ to) (ht1 : to ≤ 4294967295) (k0 : ¬ ((to / 256 * 256) = 167772160)) (k1 : ¬ (to ≥ 3758096384)) (k2 : (sumVal true [10, 0, 0, 1, (to / 16777216), ((to / 65536) % 256), ((to / 256) % 256), (to % 256), 0, 17, 0, 9, 0, 5, 0, 6, 0, 9, 0, 0, 120]) = 0) (k3 : ¬ (to = 167772161)) (k4 : ¬ (to = 167772415)) (k5 : ((to / 2147483648) % 2) = 0) (k6 : ((to / 1073741824) % 2) = 0) (k7 : ((to / 536870912) % 2) = 0) (k8 : ((to / 268435456) % 2) = 0) (k9 : ¬ (((to / 134217728) % 2) = 0)) (k10 : ((to / 134217728) % 2) = 1) (k11 : ((to / 67108864) % 2) = 0) (k12 : ¬ (((to / 33554432) % 2) = 0)) (k13 : ((to / 33554432) % 2) = 1) (k14 : ((to / 16777216) % 2) = 0) (k15 : ((to / 8388608) % 2) = 0) (k16 : ((to / 4194304) % 2) = 0) (k17 : ((to / 2097152) % 2) = 0) (k18 : ((to / 1048576) % 2) = 0) (k19 : ((to / 524288) % 2) = 0) (k20 : ((to / 262144) % 2) = 0) (k21 : ((to / 131072) % 2) = 0) : ∀ e ∈ hzQ35, @EntOK (hzV to) Tryz.prog e :=
  letI : Env := hzV to
  hzac (hze35_ok to ht0 ht1 k21) (hzQ33_ok to ht0 ht1 k0 k1 k2 k3 k4 k5 k6 k7 k8 k9 k10 k11 k12 k13 k14 k15 k16 k17 k18 k19 k20)
abbrev hzQ36 : List Ent := hze36 :: hzQ35
theorem hzQ36_ok (to : Int) (ht0 : 0 ≤ to) (ht1 : to ≤ 4294967295) (k0 : ¬ ((to / 256 * 256) = 167772160)) (k1 : ¬ (to ≥ 3758096384)) (k2 : (sumVal true [10, 0, 0, 1, (to / 16777216), ((to / 65536) % 256), ((to / 256) % 256), (to % 256), 0, 17, 0, 9, 0, 5, 0, 6, 0, 9, 0, 0, 120]) = 0) (k3 : ¬ (to = 167772161)) (k4 : ¬ (to = 167772415)) (k5 : ((to / 2147483648) % 2) = 0) (k6 : ((to / 1073741824) % 2) = 0) (k7 : ((to / 536870912) % 2) = 0) (k8 : ((to / 268435456) % 2) = 0) (k9 : ¬ (((to / 134217728) % 2) = 0)) (k10 : ((to / 134217728) % 2) = 1) (k11 : ((to / 67108864) % 2) = 0) (k12 : ¬ (((to / 33554432) % 2) = 0)) (k13 : ((to / 33554432) % 2) = 1) (k14 : ((to / 16777216) % 2) = 0) (k15 : ((to / 8388608) % 2) = 0) (k16 : ((to / 4194304) % 2) = 0) (k17 : ((to / 2097152) % 2) = 0) (k18 : ((to / 1048576) % 2) = 0) (k19 : ((to / 524288) % 2) = 0) (k20 : ((to / 262144) % 2) = 0) (k21 : ((to / 131072) % 2) = 0) (k22 : ¬ (((to / 65536) % 2) = 0)) (k23 : ((to / 65536) % 2) = 1) : ∀ e ∈ hzQ36, @EntOK (hzV to) Tryz.prog e :=
  letI : Env := hzV to
  hzac (hze36_ok to ht0 ht1 k23) (hzQ35_ok to ht0 ht1 k0 k1 k2 k3 k4 k5 k6 k7 k8 k9 k10 k11 k12 k13 k14 k15 k16 k17 k18 k19 k20 k21)
abbrev hzQ37 : List Ent := hze37 :: hzQ35
theorem hzQ37_ok (to : Int) (ht0 : 0 ≤ to) (ht1 : to ≤ 4294967295) (k0 : ¬ ((to / 256 * 256) = 167772160)) (k1 : ¬ (to ≥ 3758096384)) (k2 : (sumVal true [10, 0, 0, 1, (to / 16777216), ((to / 65536) % 256), ((to / 256) % 256), (to % 256), 0, 17, 0, 9, 0, 5, 0, 6, 0, 9, 0, 0, 120]) = 0) (k3 : ¬ (to = 167772161)) (k4 : ¬ (to = 167772415)) (k5 : ((to / 2147483648) % 2) = 0) (k6 : ((to / 1073741824) % 2) = 0) (k7 : ((to / 536870912) % 2) = 0) (k8 : ((to / 268435456) % 2) = 0) (k9 : ¬ (((to / 134217728) % 2) = 0)) (k10 : ((to / 134217728) % 2) = 1) (k11 : ((to / 67108864) % 2) = 0) (k12 : ¬ (((to / 33554432) % 2) = 0)) (k13 : ((to / 33554432) % 2) = 1) (k14 : ((to / 16777216) % 2) = 0) (k15 : ((to / 8388608) % 2) = 0) (k16 : ((to / 4194304) % 2) = 0) (k17 : ((to / 2097152) % 2) = 0) (k18 : ((to / 1048576) % 2) = 0) (k19 : ((to / 524288) % 2) = 0) (k20 : ((to / 262144) % 2) = 0) (k21 : ((to / 131072) % 2) = 0) (k22 : ((to / 65536) % 2) = 0) : ∀ e ∈ hzQ37, @EntOK (hzV to) Tryz.prog e :=
  letI : Env := hzV to
  hzac (hze37_ok to ht0 ht1 k22) (hzQ35_ok to ht0 ht1 k0 k1 k2 k3 k4 k5 k6 k7 k8 k9 k10 k11 k12 k13 k14 k15 k16 k17 k18 k19 k20 k21)
abbrev hzQ38 : List Ent := hze38 :: hzQ37
theorem hzQ38_ok (to : Int) (ht0 : 0 ≤ to) (ht1 : to ≤ 4294967295) (k0 : ¬ ((to / 256 * 256) = 167772160)) (k1 : ¬ (to ≥ 3758096384)) (k2 : (sumVal true [10, 0, 0, 1, (to / 16777216), ((to / 65536) % 256), ((to / 256) % 256), (to % 256), 0, 17, 0, 9, 0, 5, 0, 6, 0, 9, 0, 0, 120]) = 0) (k3 : ¬ (to = 167772161)) (k4 : ¬ (to = 167772415)) (k5 : ((to / 2147483648) % 2) = 0) (k6 : ((to / 1073741824) % 2) = 0) (k7 : ((to / 536870912) % 2) = 0) (k8 : ((to / 268435456) % 2) = 0) (k9 : ¬ (((to / 134217728) % 2) = 0)) (k10 : ((to / 134217728) % 2) = 1) (k11 : ((to / 67108864) % 2) = 0) (k12 : ¬ (((to / 33554432) % 2) = 0)) (k13 : ((to / 33554432) % 2) = 1) (k14 : ((to / 16777216) % 2) = 0) (k15 : ((to / 8388608) % 2) = 0) (k16 : ((to / 4194304) % 2) = 0) (k17 : ((to / 2097152) % 2) = 0) (k18 : ((to / 1048576) % 2) = 0) (k19 : ((to / 524288) % 2) = 0) (k20 : ((to / 262144) % 2) = 0) (k21 : ((to / 131072) % 2) = 0) (k22 : ((to / 65536) % 2) = 0) (k23 : ((to / 32768) % 2) = 0) : ∀ e ∈ hzQ38, @EntOK (hzV to) Tryz.prog e :=
  letI : Env := hzV to
  hzac (hze38_ok to ht0 ht1 k23) (hzQ37_ok to ht0 ht1 k0 k1 k2 k3 k4 k5 k6 k7 k8 k9 k10 k11 k12 k13 k14 k15 k16 k17 k18 k19 k20 k21 k22)
abbrev hzQ39 : List Ent := hze39 :: hzQ38
theorem hzQ39_ok (to : Int) (ht0 : 0 ≤ to) (ht1 : to ≤ 4294967295) (k0 : ¬ ((to / 256 * 256) = 167772160)) (k1 : ¬ (to ≥ 3758096384)) (k2 : (sumVal true [10, 0, 0, 1, (to / 16777216), ((to / 65536) % 256), ((to / 256) % 256), (to % 256), 0, 17, 0, 9, 0, 5, 0, 6, 0, 9, 0, 0, 120]) = 0) (k3 : ¬ (to = 167772161)) (k4 : ¬ (to = 167772415)) (k5 : ((to / 2147483648) % 2) = 0) (k6 : ((to / 1073741824) % 2) = 0) (k7 : ((to / 536870912) % 2) = 0) (k8 : ((to / 268435456) % 2) = 0) (k9 : ¬ (((to / 134217728) % 2) = 0)) (k10 : ((to / 134217728) % 2) = 1) (k11 : ((to / 67108864) % 2) = 0) (k12 : ¬ (((to / 33554432) % 2) = 0)) (k13 : ((to / 33554432) % 2) = 1) (k14 : ((to / 16777216) % 2) = 0) (k15 : ((to / 8388608) % 2) = 0) (k16 : ((to / 4194304) % 2) = 0) (k17 : ((to / 2097152) % 2) = 0) (k18 : ((to / 1048576) % 2) = 0) (k19 : ((to / 524288) % 2) = 0) (k20 : ((to / 262144) % 2) = 0) (k21 : ((to / 131072) % 2) = 0) (k22 : ((to / 65536) % 2) = 0) (k23 : ((to / 32768) % 2) = 0) (k24 : ¬ (((to / 16384) % 2) = 0)) (k25 : ((to / 16384) % 2) = 1) : ∀ e ∈ hzQ39, @EntOK (hzV to) Tryz.prog e :=
  letI : Env := hzV to
  hzac (hze39_ok to ht0 ht1 k25) (hzQ38_ok to ht0 ht1 k0 k1 k2 k3 k4 k5 k6 k7 k8 k9 k10 k11 k12 k13 k14 k15 k16 k17 k18 k19 k20 k21 k22 k23)
end Go.Proofs.YtjehddcgbgfhdaaGreat.ev
