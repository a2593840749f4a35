/-
  Chapter 10: a nil Host. Conditions: none.
-/
import Derived.Test.YtodcjokafjdhdaaEvP10
import Derived.Test.YtodcjokafjdhdaaEvBd
namespace Go.Proofs.Ytodcjokafjdhdaa.ev
set_option maxRecDepth 1000000
set_option linter.unusedVariables false
set_option linter.unusedSimpArgs false
theorem non0 (w : World) (a m x g now : Int) (ha0 : 0 ≤ a) (ha1 : a ≤ 4294967295) (hm0 : -9223372036854775808 ≤ m) (hm1 : m ≤ 9223372036854775807) (hx0 : -9223372036854775808 ≤ x) (hx1 : x ≤ 9223372036854775807) (hg0 : 0 ≤ g) (hg1 : g ≤ 4294967295) (hn0 : -9223372036854775808 ≤ now) (hn1 : now ≤ 9223372036854775807) (c0 : m < 0) : Calls Try.prog 7 #[.int .u32 a, .agg #[.int .i64 m, .int .i64 x, .int .u32 g], .int .i64 now] w (fun e w' => e = .returned (.bool true) ∧ Only [] w w') := by
  letI : Env := env [.int .u32 a, .int .i64 m, .int .i64 x, .int .u32 g, .int .i64 now]
  have hpl : ∀ e ∈ ([] : List PEnt), PEntOK e := by
    intro e he
    cases he
  refine lawS [.int .u32 a, .int .i64 m, .int .i64 x, .int .u32 g, .int .i64 now] [.bin .lss (.chan (some 1)) (.int .i64 0) (.bool true)] (sp := (spBoth (spSum [(14, true), (33, false), (28, true), (49, false)] []) (spKnown 12))) (spBoth_ok (spSum_ok sumsOK hpl) (spKnown_ok knownBody known)) ?_ (f := 300) (args := [.chan (some 0), .agg #[.chan (some 1), .chan (some 2), .chan (some 3)], .chan (some 4)]) (args' := [.int .u32 a, .agg #[.int .i64 m, .int .i64 x, .int .u32 g], .int .i64 now]) (by kernel_rfl) ?_ w
  · intro e he
    simp only [List.mem_cons, List.not_mem_nil, or_false] at he
    subst he
    · exact entCmp (k := .i64) (a := m) (b := 0) rfl rfl (by show some (decide ((m : Int) < 0)) = some true; rw [decide_eq_true (by first | omega | (simp only [sumVal, oct.sumF, oct.F, oct.ws]; omega))])
  · exact (PW.cons (.opq 0 rfl (fun b h => by cases h)) (PW.cons (PW.agg (PW.cons (.opq 1 rfl (fun b h => by cases h)) (PW.cons (.opq 2 rfl (fun b h => by cases h)) (PW.cons (.opq 3 rfl (fun b h => by cases h)) (PW.nil _))))) (PW.cons (.opq 4 rfl (fun b h => by cases h)) (PW.nil _))))
theorem non1 (w : World) (a m x g now : Int) (ha0 : 0 ≤ a) (ha1 : a ≤ 4294967295) (hm0 : -9223372036854775808 ≤ m) (hm1 : m ≤ 9223372036854775807) (hx0 : -9223372036854775808 ≤ x) (hx1 : x ≤ 9223372036854775807) (hg0 : 0 ≤ g) (hg1 : g ≤ 4294967295) (hn0 : -9223372036854775808 ≤ now) (hn1 : now ≤ 9223372036854775807) (c0 : ¬ (m < 0)) (c1 : m > 255) : Calls Try.prog 7 #[.int .u32 a, .agg #[.int .i64 m, .int .i64 x, .int .u32 g], .int .i64 now] w (fun e w' => e = .returned (.bool true) ∧ Only [] w w') := by
  letI : Env := env [.int .u32 a, .int .i64 m, .int .i64 x, .int .u32 g, .int .i64 now]
  have hpl : ∀ e ∈ ([] : List PEnt), PEntOK e := by
    intro e he
    cases he
  refine lawS [.int .u32 a, .int .i64 m, .int .i64 x, .int .u32 g, .int .i64 now] [.bin .lss (.chan (some 1)) (.int .i64 0) (.bool false), .bin .gtr (.chan (some 1)) (.int .i64 255) (.bool true)] (sp := (spBoth (spSum [(14, true), (33, false), (28, true), (49, false)] []) (spKnown 12))) (spBoth_ok (spSum_ok sumsOK hpl) (spKnown_ok knownBody known)) ?_ (f := 300) (args := [.chan (some 0), .agg #[.chan (some 1), .chan (some 2), .chan (some 3)], .chan (some 4)]) (args' := [.int .u32 a, .agg #[.int .i64 m, .int .i64 x, .int .u32 g], .int .i64 now]) (by kernel_rfl) ?_ w
  · intro e he
    simp only [List.mem_cons, List.not_mem_nil, or_false] at he
    rcases he with rfl | rfl
    · exact entCmp (k := .i64) (a := m) (b := 0) rfl rfl (by show some (decide ((m : Int) < 0)) = some false; rw [decide_eq_false (by first | omega | (simp only [sumVal, oct.sumF, oct.F, oct.ws]; omega))])
    · exact entCmp (k := .i64) (a := m) (b := 255) rfl rfl (by show some (decide ((m : Int) > 255)) = some true; rw [decide_eq_true (by first | omega | (simp only [sumVal, oct.sumF, oct.F, oct.ws]; omega))])
  · exact (PW.cons (.opq 0 rfl (fun b h => by cases h)) (PW.cons (PW.agg (PW.cons (.opq 1 rfl (fun b h => by cases h)) (PW.cons (.opq 2 rfl (fun b h => by cases h)) (PW.cons (.opq 3 rfl (fun b h => by cases h)) (PW.nil _))))) (PW.cons (.opq 4 rfl (fun b h => by cases h)) (PW.nil _))))
theorem non2 (w : World) (a m x g now : Int) (ha0 : 0 ≤ a) (ha1 : a ≤ 4294967295) (hm0 : -9223372036854775808 ≤ m) (hm1 : m ≤ 9223372036854775807) (hx0 : -9223372036854775808 ≤ x) (hx1 : x ≤ 9223372036854775807) (hg0 : 0 ≤ g) (hg1 : g ≤ 4294967295) (hn0 : -9223372036854775808 ≤ now) (hn1 : now ≤ 9223372036854775807) (c0 : ¬ (m < 0)) (c1 : ¬ (m > 255)) (c2 : x < 0) : Calls Try.prog 7 #[.int .u32 a, .agg #[.int .i64 m, .int .i64 x, .int .u32 g], .int .i64 now] w (fun e w' => e = .returned (.bool true) ∧ Only [] w w') := by
  letI : Env := env [.int .u32 a, .int .i64 m, .int .i64 x, .int .u32 g, .int .i64 now]
  have hpl : ∀ e ∈ ([] : List PEnt), PEntOK e := by
    intro e he
    cases he
  refine lawS [.int .u32 a, .int .i64 m, .int .i64 x, .int .u32 g, .int .i64 now] [.bin .lss (.chan (some 1)) (.int .i64 0) (.bool false), .bin .gtr (.chan (some 1)) (.int .i64 255) (.bool false), .bin .lss (.chan (some 2)) (.int .i64 0) (.bool true)] (sp := (spBoth (spSum [(14, true), (33, false), (28, true), (49, false)] []) (spKnown 12))) (spBoth_ok (spSum_ok sumsOK hpl) (spKnown_ok knownBody known)) ?_ (f := 300) (args := [.chan (some 0), .agg #[.chan (some 1), .chan (some 2), .chan (some 3)], .chan (some 4)]) (args' := [.int .u32 a, .agg #[.int .i64 m, .int .i64 x, .int .u32 g], .int .i64 now]) (by kernel_rfl) ?_ w
  · intro e he
    simp only [List.mem_cons, List.not_mem_nil, or_false] at he
    rcases he with rfl | rfl | rfl
    · exact entCmp (k := .i64) (a := m) (b := 0) rfl rfl (by show some (decide ((m : Int) < 0)) = some false; rw [decide_eq_false (by first | omega | (simp only [sumVal, oct.sumF, oct.F, oct.ws]; omega))])
    · exact entCmp (k := .i64) (a := m) (b := 255) rfl rfl (by show some (decide ((m : Int) > 255)) = some false; rw [decide_eq_false (by first | omega | (simp only [sumVal, oct.sumF, oct.F, oct.ws]; omega))])
    · exact entCmp (k := .i64) (a := x) (b := 0) rfl rfl (by show some (decide ((x : Int) < 0)) = some true; rw [decide_eq_true (by first | omega | (simp only [sumVal, oct.sumF, oct.F, oct.ws]; omega))])
  · exact (PW.cons (.opq 0 rfl (fun b h => by cases h)) (PW.cons (PW.agg (PW.cons (.opq 1 rfl (fun b h => by cases h)) (PW.cons (.opq 2 rfl (fun b h => by cases h)) (PW.cons (.opq 3 rfl (fun b h => by cases h)) (PW.nil _))))) (PW.cons (.opq 4 rfl (fun b h => by cases h)) (PW.nil _))))
theorem non3 (w : World) (a m x g now : Int) (ha0 : 0 ≤ a) (ha1 : a ≤ 4294967295) (hm0 : -9223372036854775808 ≤ m) (hm1 : m ≤ 9223372036854775807) (hx0 : -9223372036854775808 ≤ x) (hx1 : x ≤ 9223372036854775807) (hg0 : 0 ≤ g) (hg1 : g ≤ 4294967295) (hn0 : -9223372036854775808 ≤ now) (hn1 : now ≤ 9223372036854775807) (c0 : ¬ (m < 0)) (c1 : ¬ (m > 255)) (c2 : ¬ (x < 0)) (c3 : x > 255) : Calls Try.prog 7 #[.int .u32 a, .agg #[.int .i64 m, .int .i64 x, .int .u32 g], .int .i64 now] w (fun e w' => e = .returned (.bool true) ∧ Only [] w w') := by
  letI : Env := env [.int .u32 a, .int .i64 m, .int .i64 x, .int .u32 g, .int .i64 now]
  have hpl : ∀ e ∈ ([] : List PEnt), PEntOK e := by
    intro e he
    cases he
  refine lawS [.int .u32 a, .int .i64 m, .int .i64 x, .int .u32 g, .int .i64 now] [.bin .lss (.chan (some 1)) (.int .i64 0) (.bool false), .bin .gtr (.chan (some 1)) (.int .i64 255) (.bool false), .bin .lss (.chan (some 2)) (.int .i64 0) (.bool false), .bin .gtr (.chan (some 2)) (.int .i64 255) (.bool true)] (sp := (spBoth (spSum [(14, true), (33, false), (28, true), (49, false)] []) (spKnown 12))) (spBoth_ok (spSum_ok sumsOK hpl) (spKnown_ok knownBody known)) ?_ (f := 300) (args := [.chan (some 0), .agg #[.chan (some 1), .chan (some 2), .chan (some 3)], .chan (some 4)]) (args' := [.int .u32 a, .agg #[.int .i64 m, .int .i64 x, .int .u32 g], .int .i64 now]) (by kernel_rfl) ?_ w
  · intro e he
    simp only [List.mem_cons, List.not_mem_nil, or_false] at he
    rcases he with rfl | rfl | rfl | rfl
    · exact entCmp (k := .i64) (a := m) (b := 0) rfl rfl (by show some (decide ((m : Int) < 0)) = some false; rw [decide_eq_false (by first | omega | (simp only [sumVal, oct.sumF, oct.F, oct.ws]; omega))])
    · exact entCmp (k := .i64) (a := m) (b := 255) rfl rfl (by show some (decide ((m : Int) > 255)) = some false; rw [decide_eq_false (by first | omega | (simp only [sumVal, oct.sumF, oct.F, oct.ws]; omega))])
    · exact entCmp (k := .i64) (a := x) (b := 0) rfl rfl (by show some (decide ((x : Int) < 0)) = some false; rw [decide_eq_false (by first | omega | (simp only [sumVal, oct.sumF, oct.F, oct.ws]; omega))])
    · exact entCmp (k := .i64) (a := x) (b := 255) rfl rfl (by show some (decide ((x : Int) > 255)) = some true; rw [decide_eq_true (by first | omega | (simp only [sumVal, oct.sumF, oct.F, oct.ws]; omega))])
  · exact (PW.cons (.opq 0 rfl (fun b h => by cases h)) (PW.cons (PW.agg (PW.cons (.opq 1 rfl (fun b h => by cases h)) (PW.cons (.opq 2 rfl (fun b h => by cases h)) (PW.cons (.opq 3 rfl (fun b h => by cases h)) (PW.nil _))))) (PW.cons (.opq 4 rfl (fun b h => by cases h)) (PW.nil _))))
theorem non4 (w : World) (a m x g now : Int) (ha0 : 0 ≤ a) (ha1 : a ≤ 4294967295) (hm0 : -9223372036854775808 ≤ m) (hm1 : m ≤ 9223372036854775807) (hx0 : -9223372036854775808 ≤ x) (hx1 : x ≤ 9223372036854775807) (hg0 : 0 ≤ g) (hg1 : g ≤ 4294967295) (hn0 : -9223372036854775808 ≤ now) (hn1 : now ≤ 9223372036854775807) (c0 : ¬ (m < 0)) (c1 : ¬ (m > 255)) (c2 : ¬ (x < 0)) (c3 : ¬ (x > 255)) : Calls Try.prog 7 #[.int .u32 a, .agg #[.int .i64 m, .int .i64 x, .int .u32 g], .int .i64 now] w (fun e w' => e = .returned (.bool true) ∧ Only [] w w') := by
  letI : Env := env [.int .u32 a, .int .i64 m, .int .i64 x, .int .u32 g, .int .i64 now, .int .u64 m, .int .u8 m, .int .u64 x, .int .u8 x, .int .u32 (g / 16777216), .int .u8 (g / 16777216), .int .u32 (g / 65536), .int .u8 ((g / 65536) % 256), .int .u32 (g / 256), .int .u8 ((g / 256) % 256), .int .u8 (g % 256), .int .i64 (sumVal true [m, x, 0, 0, (g / 16777216), ((g / 65536) % 256), ((g / 256) % 256), (g % 256)]), .int .u64 (sumVal true [m, x, 0, 0, (g / 16777216), ((g / 65536) % 256), ((g / 256) % 256), (g % 256)]), .int .u64 ((sumVal true [m, x, 0, 0, (g / 16777216), ((g / 65536) % 256), ((g / 256) % 256), (g % 256)]) / 256), .int .u8 ((sumVal true [m, x, 0, 0, (g / 16777216), ((g / 65536) % 256), ((g / 256) % 256), (g % 256)]) / 256), .int .u8 ((sumVal true [m, x, 0, 0, (g / 16777216), ((g / 65536) % 256), ((g / 256) % 256), (g % 256)]) % 256)]
  have bd0 := sumVal_bd true [m, x, 0, 0, (g / 16777216), ((g / 65536) % 256), ((g / 256) % 256), (g % 256)] (by intro b hb; simp only [List.mem_cons, List.not_mem_nil, or_false] at hb; rcases hb with rfl | rfl | rfl | rfl | rfl | rfl | rfl | rfl <;> omega)
  have hpl : ∀ e ∈ ([⟨true, [.chan (some 6), .chan (some 8), .int .u8 0, .int .u8 0, .chan (some 10), .chan (some 12), .chan (some 14), .chan (some 15)], .chan (some 16)⟩] : List PEnt), PEntOK e := by
    intro e he
    simp only [List.mem_cons, List.not_mem_nil, or_false] at he
    subst he
    · exact ⟨[m, x, 0, 0, (g / 16777216), ((g / 65536) % 256), ((g / 256) % 256), (g % 256)], rfl, by intro b hb; simp only [List.mem_cons, List.not_mem_nil, or_false] at hb; rcases hb with rfl | rfl | rfl | rfl | rfl | rfl | rfl | rfl <;> omega, by intro v hv; simp only [List.mem_cons, List.not_mem_nil, or_false] at hv; rcases hv with rfl | rfl | rfl | rfl | rfl | rfl | rfl | rfl <;> exact ⟨_, _, rfl⟩, .inr (.inl ⟨_, rfl, _, _, rfl⟩), rfl⟩
  refine lawS [.int .u32 a, .int .i64 m, .int .i64 x, .int .u32 g, .int .i64 now, .int .u64 m, .int .u8 m, .int .u64 x, .int .u8 x, .int .u32 (g / 16777216), .int .u8 (g / 16777216), .int .u32 (g / 65536), .int .u8 ((g / 65536) % 256), .int .u32 (g / 256), .int .u8 ((g / 256) % 256), .int .u8 (g % 256), .int .i64 (sumVal true [m, x, 0, 0, (g / 16777216), ((g / 65536) % 256), ((g / 256) % 256), (g % 256)]), .int .u64 (sumVal true [m, x, 0, 0, (g / 16777216), ((g / 65536) % 256), ((g / 256) % 256), (g % 256)]), .int .u64 ((sumVal true [m, x, 0, 0, (g / 16777216), ((g / 65536) % 256), ((g / 256) % 256), (g % 256)]) / 256), .int .u8 ((sumVal true [m, x, 0, 0, (g / 16777216), ((g / 65536) % 256), ((g / 256) % 256), (g % 256)]) / 256), .int .u8 ((sumVal true [m, x, 0, 0, (g / 16777216), ((g / 65536) % 256), ((g / 256) % 256), (g % 256)]) % 256)] [.bin .lss (.chan (some 1)) (.int .i64 0) (.bool false), .bin .gtr (.chan (some 1)) (.int .i64 255) (.bool false), .bin .lss (.chan (some 2)) (.int .i64 0) (.bool false), .bin .gtr (.chan (some 2)) (.int .i64 255) (.bool false), .conv .u64 (.chan (some 1)) (.chan (some 5)), .conv .u8 (.chan (some 5)) (.chan (some 6)), .conv .u64 (.chan (some 2)) (.chan (some 7)), .conv .u8 (.chan (some 7)) (.chan (some 8)), .bin .shr (.chan (some 3)) (.int .u64 24) (.chan (some 9)), .conv .u8 (.chan (some 9)) (.chan (some 10)), .bin .shr (.chan (some 3)) (.int .u64 16) (.chan (some 11)), .conv .u8 (.chan (some 11)) (.chan (some 12)), .bin .shr (.chan (some 3)) (.int .u64 8) (.chan (some 13)), .conv .u8 (.chan (some 13)) (.chan (some 14)), .conv .u8 (.chan (some 3)) (.chan (some 15)), .conv .u64 (.chan (some 16)) (.chan (some 17)), .bin .shr (.chan (some 17)) (.int .u64 8) (.chan (some 18)), .conv .u8 (.chan (some 18)) (.chan (some 19)), .conv .u8 (.chan (some 17)) (.chan (some 20))] (sp := (spBoth (spSum [(14, true), (33, false), (28, true), (49, false)] [⟨true, [.chan (some 6), .chan (some 8), .int .u8 0, .int .u8 0, .chan (some 10), .chan (some 12), .chan (some 14), .chan (some 15)], .chan (some 16)⟩]) (spKnown 12))) (spBoth_ok (spSum_ok sumsOK hpl) (spKnown_ok knownBody known)) ?_ (f := 300) (args := [.chan (some 0), .agg #[.chan (some 1), .chan (some 2), .chan (some 3)], .chan (some 4)]) (args' := [.int .u32 a, .agg #[.int .i64 m, .int .i64 x, .int .u32 g], .int .i64 now]) (by kernel_rfl) ?_ w
  · intro e he
    simp only [List.mem_cons, List.not_mem_nil, or_false] at he
    rcases he with rfl | rfl | rfl | rfl | rfl | rfl | rfl | rfl | rfl | rfl | rfl | rfl | rfl | rfl | rfl | rfl | rfl | rfl | rfl
    · exact entCmp (k := .i64) (a := m) (b := 0) rfl rfl (by show some (decide ((m : Int) < 0)) = some false; rw [decide_eq_false (by first | omega | (simp only [sumVal, oct.sumF, oct.F, oct.ws]; omega))])
    · exact entCmp (k := .i64) (a := m) (b := 255) rfl rfl (by show some (decide ((m : Int) > 255)) = some false; rw [decide_eq_false (by first | omega | (simp only [sumVal, oct.sumF, oct.F, oct.ws]; omega))])
    · exact entCmp (k := .i64) (a := x) (b := 0) rfl rfl (by show some (decide ((x : Int) < 0)) = some false; rw [decide_eq_false (by first | omega | (simp only [sumVal, oct.sumF, oct.F, oct.ws]; omega))])
    · exact entCmp (k := .i64) (a := x) (b := 255) rfl rfl (by show some (decide ((x : Int) > 255)) = some false; rw [decide_eq_false (by first | omega | (simp only [sumVal, oct.sumF, oct.F, oct.ws]; omega))])
    · exact entConvV (k := .u64) (l := .i64) (a := m) (c := m) rfl rfl (by rw [IntWalk.u64_in _ (by first | omega | (simp only [sumVal, oct.sumF, oct.F, oct.ws]; omega))])
    · exact entConvV (k := .u8) (l := .u64) (a := m) (c := m) rfl rfl (by rw [IntWalk.u8_in _ (by first | omega | (simp only [sumVal, oct.sumF, oct.F, oct.ws]; omega))])
    · exact entConvV (k := .u64) (l := .i64) (a := x) (c := x) rfl rfl (by rw [IntWalk.u64_in _ (by first | omega | (simp only [sumVal, oct.sumF, oct.F, oct.ws]; omega))])
    · exact entConvV (k := .u8) (l := .u64) (a := x) (c := x) rfl rfl (by rw [IntWalk.u8_in _ (by first | omega | (simp only [sumVal, oct.sumF, oct.F, oct.ws]; omega))])
    · exact entShrV (k := .u32) (l := .u64) (a := g) (c := (g / 16777216)) (s := 24) rfl rfl rfl (by decide) (by exact fdiv_nat _ 16777216)
    · exact entConvV (k := .u8) (l := .u32) (a := (g / 16777216)) (c := (g / 16777216)) rfl rfl (by rw [IntWalk.u8_in _ (by first | omega | (simp only [sumVal, oct.sumF, oct.F, oct.ws]; omega))])
    · exact entShrV (k := .u32) (l := .u64) (a := g) (c := (g / 65536)) (s := 16) rfl rfl rfl (by decide) (by exact fdiv_nat _ 65536)
    · exact entConvV (k := .u8) (l := .u32) (a := (g / 65536)) (c := ((g / 65536) % 256)) rfl rfl (by rw [IntKind.wrap_u8])
    · exact entShrV (k := .u32) (l := .u64) (a := g) (c := (g / 256)) (s := 8) rfl rfl rfl (by decide) (by exact fdiv_nat _ 256)
    · exact entConvV (k := .u8) (l := .u32) (a := (g / 256)) (c := ((g / 256) % 256)) rfl rfl (by rw [IntKind.wrap_u8])
    · exact entConvV (k := .u8) (l := .u32) (a := g) (c := (g % 256)) rfl rfl (by rw [IntKind.wrap_u8])
    · exact entConvV (k := .u64) (l := .i64) (a := (sumVal true [m, x, 0, 0, (g / 16777216), ((g / 65536) % 256), ((g / 256) % 256), (g % 256)])) (c := (sumVal true [m, x, 0, 0, (g / 16777216), ((g / 65536) % 256), ((g / 256) % 256), (g % 256)])) rfl rfl (by rw [IntWalk.u64_in _ (by first | omega | (simp only [sumVal, oct.sumF, oct.F, oct.ws]; omega))])
    · exact entShrV (k := .u64) (l := .u64) (a := (sumVal true [m, x, 0, 0, (g / 16777216), ((g / 65536) % 256), ((g / 256) % 256), (g % 256)])) (c := ((sumVal true [m, x, 0, 0, (g / 16777216), ((g / 65536) % 256), ((g / 256) % 256), (g % 256)]) / 256)) (s := 8) rfl rfl rfl (by decide) (by exact fdiv_nat _ 256)
    · exact entConvV (k := .u8) (l := .u64) (a := ((sumVal true [m, x, 0, 0, (g / 16777216), ((g / 65536) % 256), ((g / 256) % 256), (g % 256)]) / 256)) (c := ((sumVal true [m, x, 0, 0, (g / 16777216), ((g / 65536) % 256), ((g / 256) % 256), (g % 256)]) / 256)) rfl rfl (by rw [IntWalk.u8_in _ (by first | omega | (simp only [sumVal, oct.sumF, oct.F, oct.ws]; omega))])
    · exact entConvV (k := .u8) (l := .u64) (a := (sumVal true [m, x, 0, 0, (g / 16777216), ((g / 65536) % 256), ((g / 256) % 256), (g % 256)])) (c := ((sumVal true [m, x, 0, 0, (g / 16777216), ((g / 65536) % 256), ((g / 256) % 256), (g % 256)]) % 256)) rfl rfl (by rw [IntKind.wrap_u8])
  · exact (PW.cons (.opq 0 rfl (fun b h => by cases h)) (PW.cons (PW.agg (PW.cons (.opq 1 rfl (fun b h => by cases h)) (PW.cons (.opq 2 rfl (fun b h => by cases h)) (PW.cons (.opq 3 rfl (fun b h => by cases h)) (PW.nil _))))) (PW.cons (.opq 4 rfl (fun b h => by cases h)) (PW.nil _))))
theorem igmpOfNothing (w : World) (a m x g now : Int) (ha0 : 0 ≤ a) (ha1 : a ≤ 4294967295) (hm0 : -9223372036854775808 ≤ m) (hm1 : m ≤ 9223372036854775807) (hx0 : -9223372036854775808 ≤ x) (hx1 : x ≤ 9223372036854775807) (hg0 : 0 ≤ g) (hg1 : g ≤ 4294967295) (hn0 : -9223372036854775808 ≤ now) (hn1 : now ≤ 9223372036854775807) : Calls Try.prog 7 #[.int .u32 a, .agg #[.int .i64 m, .int .i64 x, .int .u32 g], .int .i64 now] w (fun e w' => e = .returned (.bool true) ∧ Only [] w w') := by
  by_cases h1 : m < 0
  ·
    exact non0 w a m x g now ha0 ha1 hm0 hm1 hx0 hx1 hg0 hg1 hn0 hn1 h1
  ·
    by_cases h2 : m > 255
    ·
      exact non1 w a m x g now ha0 ha1 hm0 hm1 hx0 hx1 hg0 hg1 hn0 hn1 h1 h2
    ·
      by_cases h3 : x < 0
      ·
        exact non2 w a m x g now ha0 ha1 hm0 hm1 hx0 hx1 hg0 hg1 hn0 hn1 h1 h2 h3
      ·
        by_cases h4 : x > 255
        ·
          exact non3 w a m x g now ha0 ha1 hm0 hm1 hx0 hx1 hg0 hg1 hn0 hn1 h1 h2 h3 h4
        ·
          exact non4 w a m x g now ha0 ha1 hm0 hm1 hx0 hx1 hg0 hg1 hn0 hn1 h1 h2 h3 h4
end Go.Proofs.Ytodcjokafjdhdaa.ev
