/-
  Chapter 10: one whose report another told. Conditions: none.
-/
import Derived.Test.YtodcjokafjdhdaaEvP10
import Derived.Test.YtodcjokafjdhdaaEvBd
namespace Go.Proofs.Ytodcjokafjdhdaa.ev
set_option maxRecDepth 1000000
set_option linter.unusedVariables false
set_option linter.unusedSimpArgs false
theorem hush_true0 (w : World) (g d : Int) (hg0 : 0 ≤ g) (hg1 : g ≤ 4294967295) (hd0 : -9223372036854775808 ≤ d) (hd1 : d ≤ 9223372036854775807) (c0 : g ≤ 3758096385) : Calls Try.prog 8 #[.int .u32 g, .bool true, .int .i64 d] w (fun e w' => e = .returned (.bool true) ∧ Only [] w w') := by
  letI : Env := env [.int .u32 g, .int .i64 d]
  have hpl : ∀ e ∈ ([] : List PEnt), PEntOK e := by
    intro e he
    cases he
  refine lawS [.int .u32 g, .int .i64 d] [.bin .leq (.chan (some 0)) (.int .u32 3758096385) (.bool true)] (sp := (spBoth (spSum [(14, true), (33, false), (28, true), (49, false)] []) (spKnown 12))) (spBoth_ok (spSum_ok sumsOK hpl) (spKnown_ok knownBody known)) ?_ (f := 300) (args := [.chan (some 0), .bool true, .chan (some 1)]) (args' := [.int .u32 g, .bool true, .int .i64 d]) (by kernel_rfl) ?_ w
  · intro e he
    simp only [List.mem_cons, List.not_mem_nil, or_false] at he
    subst he
    · exact entCmp (k := .u32) (a := g) (b := 3758096385) rfl rfl (by show some (decide ((g : Int) ≤ 3758096385)) = some true; rw [decide_eq_true (by first | omega | (simp only [sumVal, oct.sumF, oct.F, oct.ws]; omega))])
  · exact (PW.cons (.opq 0 rfl (fun b h => by cases h)) (PW.cons (VR.of_flat 6 _ rfl) (PW.cons (.opq 1 rfl (fun b h => by cases h)) (PW.nil _))))
theorem hush_true1 (w : World) (g d : Int) (hg0 : 0 ≤ g) (hg1 : g ≤ 4294967295) (hd0 : -9223372036854775808 ≤ d) (hd1 : d ≤ 9223372036854775807) (c0 : ¬ (g ≤ 3758096385)) (c1 : g ≥ 4026531840) : Calls Try.prog 8 #[.int .u32 g, .bool true, .int .i64 d] w (fun e w' => e = .returned (.bool true) ∧ Only [] w w') := by
  letI : Env := env [.int .u32 g, .int .i64 d]
  have hpl : ∀ e ∈ ([] : List PEnt), PEntOK e := by
    intro e he
    cases he
  refine lawS [.int .u32 g, .int .i64 d] [.bin .leq (.chan (some 0)) (.int .u32 3758096385) (.bool false), .bin .geq (.chan (some 0)) (.int .u32 4026531840) (.bool true)] (sp := (spBoth (spSum [(14, true), (33, false), (28, true), (49, false)] []) (spKnown 12))) (spBoth_ok (spSum_ok sumsOK hpl) (spKnown_ok knownBody known)) ?_ (f := 300) (args := [.chan (some 0), .bool true, .chan (some 1)]) (args' := [.int .u32 g, .bool true, .int .i64 d]) (by kernel_rfl) ?_ w
  · intro e he
    simp only [List.mem_cons, List.not_mem_nil, or_false] at he
    rcases he with rfl | rfl
    · exact entCmp (k := .u32) (a := g) (b := 3758096385) rfl rfl (by show some (decide ((g : Int) ≤ 3758096385)) = some false; rw [decide_eq_false (by first | omega | (simp only [sumVal, oct.sumF, oct.F, oct.ws]; omega))])
    · exact entCmp (k := .u32) (a := g) (b := 4026531840) rfl rfl (by show some (decide ((g : Int) ≥ 4026531840)) = some true; rw [decide_eq_true (by first | omega | (simp only [sumVal, oct.sumF, oct.F, oct.ws]; omega))])
  · exact (PW.cons (.opq 0 rfl (fun b h => by cases h)) (PW.cons (VR.of_flat 6 _ rfl) (PW.cons (.opq 1 rfl (fun b h => by cases h)) (PW.nil _))))
theorem hush_true2 (w : World) (g d : Int) (hg0 : 0 ≤ g) (hg1 : g ≤ 4294967295) (hd0 : -9223372036854775808 ≤ d) (hd1 : d ≤ 9223372036854775807) (c0 : ¬ (g ≤ 3758096385)) (c1 : ¬ (g ≥ 4026531840)) (c2 : ¬ (d ≤ 0)) : Calls Try.prog 8 #[.int .u32 g, .bool true, .int .i64 d] w (fun e w' => e = .returned (.bool true) ∧ Only [] w w') := by
  letI : Env := env [.int .u32 g, .int .i64 d, .int .i64 d, .int .i64 (d % 10), .int .i64 ((d % 10) + 0), .int .i64 (((d % 10) + 0) % 10), .int .i64 (1 + (((d % 10) + 0) % 10)), .int .i64 (9223372036854775807 - (1 + (((d % 10) + 0) % 10))), .int .i64 (0 + (1 + (((d % 10) + 0) % 10))), .int .u32 (g / 16777216), .int .u8 (g / 16777216), .int .u32 (g / 65536), .int .u8 ((g / 65536) % 256), .int .u32 (g / 256), .int .u8 ((g / 256) % 256), .int .u8 (g % 256), .int .i64 (sumVal true [22, 0, 0, 0, (g / 16777216), ((g / 65536) % 256), ((g / 256) % 256), (g % 256)]), .int .u64 (sumVal true [22, 0, 0, 0, (g / 16777216), ((g / 65536) % 256), ((g / 256) % 256), (g % 256)]), .int .u64 ((sumVal true [22, 0, 0, 0, (g / 16777216), ((g / 65536) % 256), ((g / 256) % 256), (g % 256)]) / 256), .int .u8 ((sumVal true [22, 0, 0, 0, (g / 16777216), ((g / 65536) % 256), ((g / 256) % 256), (g % 256)]) / 256), .int .u8 ((sumVal true [22, 0, 0, 0, (g / 16777216), ((g / 65536) % 256), ((g / 256) % 256), (g % 256)]) % 256)]
  have bd0 := sumVal_bd true [22, 0, 0, 0, (g / 16777216), ((g / 65536) % 256), ((g / 256) % 256), (g % 256)] (by intro b hb; simp only [List.mem_cons, List.not_mem_nil, or_false] at hb; rcases hb with rfl | rfl | rfl | rfl | rfl | rfl | rfl | rfl <;> omega)
  have hpl : ∀ e ∈ ([⟨true, [.int .u8 22, .int .u8 0, .int .u8 0, .int .u8 0, .chan (some 10), .chan (some 12), .chan (some 14), .chan (some 15)], .chan (some 16)⟩] : List PEnt), PEntOK e := by
    intro e he
    simp only [List.mem_cons, List.not_mem_nil, or_false] at he
    subst he
    · exact ⟨[22, 0, 0, 0, (g / 16777216), ((g / 65536) % 256), ((g / 256) % 256), (g % 256)], rfl, by intro b hb; simp only [List.mem_cons, List.not_mem_nil, or_false] at hb; rcases hb with rfl | rfl | rfl | rfl | rfl | rfl | rfl | rfl <;> omega, by intro v hv; simp only [List.mem_cons, List.not_mem_nil, or_false] at hv; rcases hv with rfl | rfl | rfl | rfl | rfl | rfl | rfl | rfl <;> exact ⟨_, _, rfl⟩, .inr (.inl ⟨_, rfl, _, _, rfl⟩), rfl⟩
  refine lawS [.int .u32 g, .int .i64 d, .int .i64 d, .int .i64 (d % 10), .int .i64 ((d % 10) + 0), .int .i64 (((d % 10) + 0) % 10), .int .i64 (1 + (((d % 10) + 0) % 10)), .int .i64 (9223372036854775807 - (1 + (((d % 10) + 0) % 10))), .int .i64 (0 + (1 + (((d % 10) + 0) % 10))), .int .u32 (g / 16777216), .int .u8 (g / 16777216), .int .u32 (g / 65536), .int .u8 ((g / 65536) % 256), .int .u32 (g / 256), .int .u8 ((g / 256) % 256), .int .u8 (g % 256), .int .i64 (sumVal true [22, 0, 0, 0, (g / 16777216), ((g / 65536) % 256), ((g / 256) % 256), (g % 256)]), .int .u64 (sumVal true [22, 0, 0, 0, (g / 16777216), ((g / 65536) % 256), ((g / 256) % 256), (g % 256)]), .int .u64 ((sumVal true [22, 0, 0, 0, (g / 16777216), ((g / 65536) % 256), ((g / 256) % 256), (g % 256)]) / 256), .int .u8 ((sumVal true [22, 0, 0, 0, (g / 16777216), ((g / 65536) % 256), ((g / 256) % 256), (g % 256)]) / 256), .int .u8 ((sumVal true [22, 0, 0, 0, (g / 16777216), ((g / 65536) % 256), ((g / 256) % 256), (g % 256)]) % 256)] [.bin .leq (.chan (some 0)) (.int .u32 3758096385) (.bool false), .bin .geq (.chan (some 0)) (.int .u32 4026531840) (.bool false), .mm true (.chan (some 1)) (.int .i64 0) (.chan (some 2)), .bin .rem (.chan (some 2)) (.int .i64 10) (.chan (some 3)), .bin .add (.chan (some 3)) (.int .i64 0) (.chan (some 4)), .bin .rem (.chan (some 4)) (.int .i64 10) (.chan (some 5)), .bin .add (.int .i64 1) (.chan (some 5)) (.chan (some 6)), .bin .sub (.int .i64 9223372036854775807) (.chan (some 6)) (.chan (some 7)), .bin .gtr (.int .i64 0) (.chan (some 7)) (.bool false), .bin .add (.int .i64 0) (.chan (some 6)) (.chan (some 8)), .bin .shr (.chan (some 0)) (.int .u64 24) (.chan (some 9)), .conv .u8 (.chan (some 9)) (.chan (some 10)), .bin .shr (.chan (some 0)) (.int .u64 16) (.chan (some 11)), .conv .u8 (.chan (some 11)) (.chan (some 12)), .bin .shr (.chan (some 0)) (.int .u64 8) (.chan (some 13)), .conv .u8 (.chan (some 13)) (.chan (some 14)), .conv .u8 (.chan (some 0)) (.chan (some 15)), .conv .u64 (.chan (some 16)) (.chan (some 17)), .bin .shr (.chan (some 17)) (.int .u64 8) (.chan (some 18)), .conv .u8 (.chan (some 18)) (.chan (some 19)), .conv .u8 (.chan (some 17)) (.chan (some 20)), .bin .neq (.chan (some 0)) (.chan (some 0)) (.bool false), .bin .lss (.chan (some 0)) (.chan (some 0)) (.bool false), .bin .gtr (.chan (some 0)) (.chan (some 0)) (.bool false)] (sp := (spBoth (spSum [(14, true), (33, false), (28, true), (49, false)] [⟨true, [.int .u8 22, .int .u8 0, .int .u8 0, .int .u8 0, .chan (some 10), .chan (some 12), .chan (some 14), .chan (some 15)], .chan (some 16)⟩]) (spKnown 12))) (spBoth_ok (spSum_ok sumsOK hpl) (spKnown_ok knownBody known)) ?_ (f := 300) (args := [.chan (some 0), .bool true, .chan (some 1)]) (args' := [.int .u32 g, .bool true, .int .i64 d]) (by kernel_rfl) ?_ w
  · intro e he
    simp only [List.mem_cons, List.not_mem_nil, or_false] at he
    rcases he with rfl | rfl | rfl | rfl | rfl | rfl | rfl | rfl | rfl | rfl | rfl | rfl | rfl | rfl | rfl | rfl | rfl | rfl | rfl | rfl | rfl | rfl | rfl | rfl
    · exact entCmp (k := .u32) (a := g) (b := 3758096385) rfl rfl (by show some (decide ((g : Int) ≤ 3758096385)) = some false; rw [decide_eq_false (by first | omega | (simp only [sumVal, oct.sumF, oct.F, oct.ws]; omega))])
    · exact entCmp (k := .u32) (a := g) (b := 4026531840) rfl rfl (by show some (decide ((g : Int) ≥ 4026531840)) = some false; rw [decide_eq_false (by first | omega | (simp only [sumVal, oct.sumF, oct.F, oct.ws]; omega))])
    · exact entMm (k := .i64) (a := d) (b := 0) (c := d) rfl rfl rfl (by first | (simp; done) | (simp; omega) | (split <;> omega))
    · exact (by have h := entRem (P := Try.prog) (x := .chan (some 2)) (y := .int .i64 10) (k := .i64) (a := d) (b := 10) (j := 3) rfl rfl (by rw [Int.tmod_eq_emod_of_nonneg (by first | omega | (simp only [sumVal, oct.sumF, oct.F, oct.ws]; omega))]; rfl) (by omega); exact h)
    · exact entArith (k := .i64) (a := (d % 10)) (b := 0) (c := ((d % 10) + 0)) rfl rfl rfl (by show some (IntKind.i64.wrap (((d % 10) + 0))) = some ((d % 10) + 0); rw [IntWalk.i64_in _ (by first | omega | (simp only [sumVal, oct.sumF, oct.F, oct.ws]; omega))])
    · exact (by have h := entRem (P := Try.prog) (x := .chan (some 4)) (y := .int .i64 10) (k := .i64) (a := ((d % 10) + 0)) (b := 10) (j := 5) rfl rfl (by rw [Int.tmod_eq_emod_of_nonneg (by first | omega | (simp only [sumVal, oct.sumF, oct.F, oct.ws]; omega))]; rfl) (by omega); exact h)
    · exact entArith (k := .i64) (a := 1) (b := (((d % 10) + 0) % 10)) (c := (1 + (((d % 10) + 0) % 10))) rfl rfl rfl (by show some (IntKind.i64.wrap ((1 + (((d % 10) + 0) % 10)))) = some (1 + (((d % 10) + 0) % 10)); rw [IntWalk.i64_in _ (by first | omega | (simp only [sumVal, oct.sumF, oct.F, oct.ws]; omega))])
    · exact entArith (k := .i64) (a := 9223372036854775807) (b := (1 + (((d % 10) + 0) % 10))) (c := (9223372036854775807 - (1 + (((d % 10) + 0) % 10)))) rfl rfl rfl (by show some (IntKind.i64.wrap ((9223372036854775807 - (1 + (((d % 10) + 0) % 10))))) = some (9223372036854775807 - (1 + (((d % 10) + 0) % 10))); rw [IntWalk.i64_in _ (by first | omega | (simp only [sumVal, oct.sumF, oct.F, oct.ws]; omega))])
    · exact entCmp (k := .i64) (a := 0) (b := (9223372036854775807 - (1 + (((d % 10) + 0) % 10)))) rfl rfl (by show some (decide ((0 : Int) > (9223372036854775807 - (1 + (((d % 10) + 0) % 10))))) = some false; rw [decide_eq_false (by first | omega | (simp only [sumVal, oct.sumF, oct.F, oct.ws]; omega))])
    · exact entArith (k := .i64) (a := 0) (b := (1 + (((d % 10) + 0) % 10))) (c := (0 + (1 + (((d % 10) + 0) % 10)))) rfl rfl rfl (by show some (IntKind.i64.wrap ((0 + (1 + (((d % 10) + 0) % 10))))) = some (0 + (1 + (((d % 10) + 0) % 10))); rw [IntWalk.i64_in _ (by first | omega | (simp only [sumVal, oct.sumF, oct.F, oct.ws]; omega))])
    · exact entShrV (k := .u32) (l := .u64) (a := g) (c := (g / 16777216)) (s := 24) rfl rfl rfl (by decide) (by exact fdiv_nat _ 16777216)
    · exact entConvV (k := .u8) (l := .u32) (a := (g / 16777216)) (c := (g / 16777216)) rfl rfl (by rw [IntWalk.u8_in _ (by first | omega | (simp only [sumVal, oct.sumF, oct.F, oct.ws]; omega))])
    · exact entShrV (k := .u32) (l := .u64) (a := g) (c := (g / 65536)) (s := 16) rfl rfl rfl (by decide) (by exact fdiv_nat _ 65536)
    · exact entConvV (k := .u8) (l := .u32) (a := (g / 65536)) (c := ((g / 65536) % 256)) rfl rfl (by rw [IntKind.wrap_u8])
    · exact entShrV (k := .u32) (l := .u64) (a := g) (c := (g / 256)) (s := 8) rfl rfl rfl (by decide) (by exact fdiv_nat _ 256)
    · exact entConvV (k := .u8) (l := .u32) (a := (g / 256)) (c := ((g / 256) % 256)) rfl rfl (by rw [IntKind.wrap_u8])
    · exact entConvV (k := .u8) (l := .u32) (a := g) (c := (g % 256)) rfl rfl (by rw [IntKind.wrap_u8])
    · exact entConvV (k := .u64) (l := .i64) (a := (sumVal true [22, 0, 0, 0, (g / 16777216), ((g / 65536) % 256), ((g / 256) % 256), (g % 256)])) (c := (sumVal true [22, 0, 0, 0, (g / 16777216), ((g / 65536) % 256), ((g / 256) % 256), (g % 256)])) rfl rfl (by rw [IntWalk.u64_in _ (by first | omega | (simp only [sumVal, oct.sumF, oct.F, oct.ws]; omega))])
    · exact entShrV (k := .u64) (l := .u64) (a := (sumVal true [22, 0, 0, 0, (g / 16777216), ((g / 65536) % 256), ((g / 256) % 256), (g % 256)])) (c := ((sumVal true [22, 0, 0, 0, (g / 16777216), ((g / 65536) % 256), ((g / 256) % 256), (g % 256)]) / 256)) (s := 8) rfl rfl rfl (by decide) (by exact fdiv_nat _ 256)
    · exact entConvV (k := .u8) (l := .u64) (a := ((sumVal true [22, 0, 0, 0, (g / 16777216), ((g / 65536) % 256), ((g / 256) % 256), (g % 256)]) / 256)) (c := ((sumVal true [22, 0, 0, 0, (g / 16777216), ((g / 65536) % 256), ((g / 256) % 256), (g % 256)]) / 256)) rfl rfl (by rw [IntWalk.u8_in _ (by first | omega | (simp only [sumVal, oct.sumF, oct.F, oct.ws]; omega))])
    · exact entConvV (k := .u8) (l := .u64) (a := (sumVal true [22, 0, 0, 0, (g / 16777216), ((g / 65536) % 256), ((g / 256) % 256), (g % 256)])) (c := ((sumVal true [22, 0, 0, 0, (g / 16777216), ((g / 65536) % 256), ((g / 256) % 256), (g % 256)]) % 256)) rfl rfl (by rw [IntKind.wrap_u8])
    · exact entCmp (k := .u32) (a := g) (b := g) rfl rfl (by show some ((g : Int) != g) = some false; rw [bne_eq_false_iff_eq.2 (by first | omega | (simp only [sumVal, oct.sumF, oct.F, oct.ws]; omega))])
    · exact entCmp (k := .u32) (a := g) (b := g) rfl rfl (by show some (decide ((g : Int) < g)) = some false; rw [decide_eq_false (by first | omega | (simp only [sumVal, oct.sumF, oct.F, oct.ws]; omega))])
    · exact entCmp (k := .u32) (a := g) (b := g) rfl rfl (by show some (decide ((g : Int) > g)) = some false; rw [decide_eq_false (by first | omega | (simp only [sumVal, oct.sumF, oct.F, oct.ws]; omega))])
  · exact (PW.cons (.opq 0 rfl (fun b h => by cases h)) (PW.cons (VR.of_flat 6 _ rfl) (PW.cons (.opq 1 rfl (fun b h => by cases h)) (PW.nil _))))
theorem hush_true3 (w : World) (g d : Int) (hg0 : 0 ≤ g) (hg1 : g ≤ 4294967295) (hd0 : -9223372036854775808 ≤ d) (hd1 : d ≤ 9223372036854775807) (c0 : ¬ (g ≤ 3758096385)) (c1 : ¬ (g ≥ 4026531840)) (c2 : d ≤ 0) : Calls Try.prog 8 #[.int .u32 g, .bool true, .int .i64 d] w (fun e w' => e = .returned (.bool true) ∧ Only [] w w') := by
  letI : Env := env [.int .u32 g, .int .i64 d, .int .u32 (g / 16777216), .int .u8 (g / 16777216), .int .u32 (g / 65536), .int .u8 ((g / 65536) % 256), .int .u32 (g / 256), .int .u8 ((g / 256) % 256), .int .u8 (g % 256), .int .i64 (sumVal true [22, 0, 0, 0, (g / 16777216), ((g / 65536) % 256), ((g / 256) % 256), (g % 256)]), .int .u64 (sumVal true [22, 0, 0, 0, (g / 16777216), ((g / 65536) % 256), ((g / 256) % 256), (g % 256)]), .int .u64 ((sumVal true [22, 0, 0, 0, (g / 16777216), ((g / 65536) % 256), ((g / 256) % 256), (g % 256)]) / 256), .int .u8 ((sumVal true [22, 0, 0, 0, (g / 16777216), ((g / 65536) % 256), ((g / 256) % 256), (g % 256)]) / 256), .int .u8 ((sumVal true [22, 0, 0, 0, (g / 16777216), ((g / 65536) % 256), ((g / 256) % 256), (g % 256)]) % 256)]
  have bd0 := sumVal_bd true [22, 0, 0, 0, (g / 16777216), ((g / 65536) % 256), ((g / 256) % 256), (g % 256)] (by intro b hb; simp only [List.mem_cons, List.not_mem_nil, or_false] at hb; rcases hb with rfl | rfl | rfl | rfl | rfl | rfl | rfl | rfl <;> omega)
  have hpl : ∀ e ∈ ([⟨true, [.int .u8 22, .int .u8 0, .int .u8 0, .int .u8 0, .chan (some 3), .chan (some 5), .chan (some 7), .chan (some 8)], .chan (some 9)⟩] : List PEnt), PEntOK e := by
    intro e he
    simp only [List.mem_cons, List.not_mem_nil, or_false] at he
    subst he
    · exact ⟨[22, 0, 0, 0, (g / 16777216), ((g / 65536) % 256), ((g / 256) % 256), (g % 256)], rfl, by intro b hb; simp only [List.mem_cons, List.not_mem_nil, or_false] at hb; rcases hb with rfl | rfl | rfl | rfl | rfl | rfl | rfl | rfl <;> omega, by intro v hv; simp only [List.mem_cons, List.not_mem_nil, or_false] at hv; rcases hv with rfl | rfl | rfl | rfl | rfl | rfl | rfl | rfl <;> exact ⟨_, _, rfl⟩, .inr (.inl ⟨_, rfl, _, _, rfl⟩), rfl⟩
  refine lawS [.int .u32 g, .int .i64 d, .int .u32 (g / 16777216), .int .u8 (g / 16777216), .int .u32 (g / 65536), .int .u8 ((g / 65536) % 256), .int .u32 (g / 256), .int .u8 ((g / 256) % 256), .int .u8 (g % 256), .int .i64 (sumVal true [22, 0, 0, 0, (g / 16777216), ((g / 65536) % 256), ((g / 256) % 256), (g % 256)]), .int .u64 (sumVal true [22, 0, 0, 0, (g / 16777216), ((g / 65536) % 256), ((g / 256) % 256), (g % 256)]), .int .u64 ((sumVal true [22, 0, 0, 0, (g / 16777216), ((g / 65536) % 256), ((g / 256) % 256), (g % 256)]) / 256), .int .u8 ((sumVal true [22, 0, 0, 0, (g / 16777216), ((g / 65536) % 256), ((g / 256) % 256), (g % 256)]) / 256), .int .u8 ((sumVal true [22, 0, 0, 0, (g / 16777216), ((g / 65536) % 256), ((g / 256) % 256), (g % 256)]) % 256)] [.bin .leq (.chan (some 0)) (.int .u32 3758096385) (.bool false), .bin .geq (.chan (some 0)) (.int .u32 4026531840) (.bool false), .mm true (.chan (some 1)) (.int .i64 0) (.int .i64 0), .bin .shr (.chan (some 0)) (.int .u64 24) (.chan (some 2)), .conv .u8 (.chan (some 2)) (.chan (some 3)), .bin .shr (.chan (some 0)) (.int .u64 16) (.chan (some 4)), .conv .u8 (.chan (some 4)) (.chan (some 5)), .bin .shr (.chan (some 0)) (.int .u64 8) (.chan (some 6)), .conv .u8 (.chan (some 6)) (.chan (some 7)), .conv .u8 (.chan (some 0)) (.chan (some 8)), .conv .u64 (.chan (some 9)) (.chan (some 10)), .bin .shr (.chan (some 10)) (.int .u64 8) (.chan (some 11)), .conv .u8 (.chan (some 11)) (.chan (some 12)), .conv .u8 (.chan (some 10)) (.chan (some 13)), .bin .neq (.chan (some 0)) (.chan (some 0)) (.bool false), .bin .lss (.chan (some 0)) (.chan (some 0)) (.bool false), .bin .gtr (.chan (some 0)) (.chan (some 0)) (.bool false)] (sp := (spBoth (spSum [(14, true), (33, false), (28, true), (49, false)] [⟨true, [.int .u8 22, .int .u8 0, .int .u8 0, .int .u8 0, .chan (some 3), .chan (some 5), .chan (some 7), .chan (some 8)], .chan (some 9)⟩]) (spKnown 12))) (spBoth_ok (spSum_ok sumsOK hpl) (spKnown_ok knownBody known)) ?_ (f := 300) (args := [.chan (some 0), .bool true, .chan (some 1)]) (args' := [.int .u32 g, .bool true, .int .i64 d]) (by kernel_rfl) ?_ w
  · intro e he
    simp only [List.mem_cons, List.not_mem_nil, or_false] at he
    rcases he with rfl | rfl | rfl | rfl | rfl | rfl | rfl | rfl | rfl | rfl | rfl | rfl | rfl | rfl | rfl | rfl | rfl
    · exact entCmp (k := .u32) (a := g) (b := 3758096385) rfl rfl (by show some (decide ((g : Int) ≤ 3758096385)) = some false; rw [decide_eq_false (by first | omega | (simp only [sumVal, oct.sumF, oct.F, oct.ws]; omega))])
    · exact entCmp (k := .u32) (a := g) (b := 4026531840) rfl rfl (by show some (decide ((g : Int) ≥ 4026531840)) = some false; rw [decide_eq_false (by first | omega | (simp only [sumVal, oct.sumF, oct.F, oct.ws]; omega))])
    · exact entMmI (k := .i64) (a := d) (b := 0) (c := 0) rfl rfl (by first | (simp; done) | (simp; omega) | (split <;> omega))
    · exact entShrV (k := .u32) (l := .u64) (a := g) (c := (g / 16777216)) (s := 24) rfl rfl rfl (by decide) (by exact fdiv_nat _ 16777216)
    · exact entConvV (k := .u8) (l := .u32) (a := (g / 16777216)) (c := (g / 16777216)) rfl rfl (by rw [IntWalk.u8_in _ (by first | omega | (simp only [sumVal, oct.sumF, oct.F, oct.ws]; omega))])
    · exact entShrV (k := .u32) (l := .u64) (a := g) (c := (g / 65536)) (s := 16) rfl rfl rfl (by decide) (by exact fdiv_nat _ 65536)
    · exact entConvV (k := .u8) (l := .u32) (a := (g / 65536)) (c := ((g / 65536) % 256)) rfl rfl (by rw [IntKind.wrap_u8])
    · exact entShrV (k := .u32) (l := .u64) (a := g) (c := (g / 256)) (s := 8) rfl rfl rfl (by decide) (by exact fdiv_nat _ 256)
    · exact entConvV (k := .u8) (l := .u32) (a := (g / 256)) (c := ((g / 256) % 256)) rfl rfl (by rw [IntKind.wrap_u8])
    · exact entConvV (k := .u8) (l := .u32) (a := g) (c := (g % 256)) rfl rfl (by rw [IntKind.wrap_u8])
    · exact entConvV (k := .u64) (l := .i64) (a := (sumVal true [22, 0, 0, 0, (g / 16777216), ((g / 65536) % 256), ((g / 256) % 256), (g % 256)])) (c := (sumVal true [22, 0, 0, 0, (g / 16777216), ((g / 65536) % 256), ((g / 256) % 256), (g % 256)])) rfl rfl (by rw [IntWalk.u64_in _ (by first | omega | (simp only [sumVal, oct.sumF, oct.F, oct.ws]; omega))])
    · exact entShrV (k := .u64) (l := .u64) (a := (sumVal true [22, 0, 0, 0, (g / 16777216), ((g / 65536) % 256), ((g / 256) % 256), (g % 256)])) (c := ((sumVal true [22, 0, 0, 0, (g / 16777216), ((g / 65536) % 256), ((g / 256) % 256), (g % 256)]) / 256)) (s := 8) rfl rfl rfl (by decide) (by exact fdiv_nat _ 256)
    · exact entConvV (k := .u8) (l := .u64) (a := ((sumVal true [22, 0, 0, 0, (g / 16777216), ((g / 65536) % 256), ((g / 256) % 256), (g % 256)]) / 256)) (c := ((sumVal true [22, 0, 0, 0, (g / 16777216), ((g / 65536) % 256), ((g / 256) % 256), (g % 256)]) / 256)) rfl rfl (by rw [IntWalk.u8_in _ (by first | omega | (simp only [sumVal, oct.sumF, oct.F, oct.ws]; omega))])
    · exact entConvV (k := .u8) (l := .u64) (a := (sumVal true [22, 0, 0, 0, (g / 16777216), ((g / 65536) % 256), ((g / 256) % 256), (g % 256)])) (c := ((sumVal true [22, 0, 0, 0, (g / 16777216), ((g / 65536) % 256), ((g / 256) % 256), (g % 256)]) % 256)) rfl rfl (by rw [IntKind.wrap_u8])
    · exact entCmp (k := .u32) (a := g) (b := g) rfl rfl (by show some ((g : Int) != g) = some false; rw [bne_eq_false_iff_eq.2 (by first | omega | (simp only [sumVal, oct.sumF, oct.F, oct.ws]; omega))])
    · exact entCmp (k := .u32) (a := g) (b := g) rfl rfl (by show some (decide ((g : Int) < g)) = some false; rw [decide_eq_false (by first | omega | (simp only [sumVal, oct.sumF, oct.F, oct.ws]; omega))])
    · exact entCmp (k := .u32) (a := g) (b := g) rfl rfl (by show some (decide ((g : Int) > g)) = some false; rw [decide_eq_false (by first | omega | (simp only [sumVal, oct.sumF, oct.F, oct.ws]; omega))])
  · exact (PW.cons (.opq 0 rfl (fun b h => by cases h)) (PW.cons (VR.of_flat 6 _ rfl) (PW.cons (.opq 1 rfl (fun b h => by cases h)) (PW.nil _))))
theorem igmpHushes_true (w : World) (g d : Int) (hg0 : 0 ≤ g) (hg1 : g ≤ 4294967295) (hd0 : -9223372036854775808 ≤ d) (hd1 : d ≤ 9223372036854775807) : Calls Try.prog 8 #[.int .u32 g, .bool true, .int .i64 d] w (fun e w' => e = .returned (.bool true) ∧ Only [] w w') := by
  by_cases h1 : g ≤ 3758096385
  ·
    exact hush_true0 w g d hg0 hg1 hd0 hd1 h1
  ·
    by_cases h2 : g ≥ 4026531840
    ·
      exact hush_true1 w g d hg0 hg1 hd0 hd1 h1 h2
    ·
      by_cases h3 : d ≤ 0
      ·
        exact hush_true3 w g d hg0 hg1 hd0 hd1 h1 h2 h3
      ·
        exact hush_true2 w g d hg0 hg1 hd0 hd1 h1 h2 h3
theorem hush_false0 (w : World) (g d : Int) (hg0 : 0 ≤ g) (hg1 : g ≤ 4294967295) (hd0 : -9223372036854775808 ≤ d) (hd1 : d ≤ 9223372036854775807) (c0 : g ≤ 3758096385) : Calls Try.prog 8 #[.int .u32 g, .bool false, .int .i64 d] w (fun e w' => e = .returned (.bool true) ∧ Only [] w w') := by
  letI : Env := env [.int .u32 g, .int .i64 d]
  have hpl : ∀ e ∈ ([] : List PEnt), PEntOK e := by
    intro e he
    cases he
  refine lawS [.int .u32 g, .int .i64 d] [.bin .leq (.chan (some 0)) (.int .u32 3758096385) (.bool true)] (sp := (spBoth (spSum [(14, true), (33, false), (28, true), (49, false)] []) (spKnown 12))) (spBoth_ok (spSum_ok sumsOK hpl) (spKnown_ok knownBody known)) ?_ (f := 300) (args := [.chan (some 0), .bool false, .chan (some 1)]) (args' := [.int .u32 g, .bool false, .int .i64 d]) (by kernel_rfl) ?_ w
  · intro e he
    simp only [List.mem_cons, List.not_mem_nil, or_false] at he
    subst he
    · exact entCmp (k := .u32) (a := g) (b := 3758096385) rfl rfl (by show some (decide ((g : Int) ≤ 3758096385)) = some true; rw [decide_eq_true (by first | omega | (simp only [sumVal, oct.sumF, oct.F, oct.ws]; omega))])
  · exact (PW.cons (.opq 0 rfl (fun b h => by cases h)) (PW.cons (VR.of_flat 6 _ rfl) (PW.cons (.opq 1 rfl (fun b h => by cases h)) (PW.nil _))))
theorem hush_false1 (w : World) (g d : Int) (hg0 : 0 ≤ g) (hg1 : g ≤ 4294967295) (hd0 : -9223372036854775808 ≤ d) (hd1 : d ≤ 9223372036854775807) (c0 : ¬ (g ≤ 3758096385)) (c1 : g ≥ 4026531840) : Calls Try.prog 8 #[.int .u32 g, .bool false, .int .i64 d] w (fun e w' => e = .returned (.bool true) ∧ Only [] w w') := by
  letI : Env := env [.int .u32 g, .int .i64 d]
  have hpl : ∀ e ∈ ([] : List PEnt), PEntOK e := by
    intro e he
    cases he
  refine lawS [.int .u32 g, .int .i64 d] [.bin .leq (.chan (some 0)) (.int .u32 3758096385) (.bool false), .bin .geq (.chan (some 0)) (.int .u32 4026531840) (.bool true)] (sp := (spBoth (spSum [(14, true), (33, false), (28, true), (49, false)] []) (spKnown 12))) (spBoth_ok (spSum_ok sumsOK hpl) (spKnown_ok knownBody known)) ?_ (f := 300) (args := [.chan (some 0), .bool false, .chan (some 1)]) (args' := [.int .u32 g, .bool false, .int .i64 d]) (by kernel_rfl) ?_ w
  · intro e he
    simp only [List.mem_cons, List.not_mem_nil, or_false] at he
    rcases he with rfl | rfl
    · exact entCmp (k := .u32) (a := g) (b := 3758096385) rfl rfl (by show some (decide ((g : Int) ≤ 3758096385)) = some false; rw [decide_eq_false (by first | omega | (simp only [sumVal, oct.sumF, oct.F, oct.ws]; omega))])
    · exact entCmp (k := .u32) (a := g) (b := 4026531840) rfl rfl (by show some (decide ((g : Int) ≥ 4026531840)) = some true; rw [decide_eq_true (by first | omega | (simp only [sumVal, oct.sumF, oct.F, oct.ws]; omega))])
  · exact (PW.cons (.opq 0 rfl (fun b h => by cases h)) (PW.cons (VR.of_flat 6 _ rfl) (PW.cons (.opq 1 rfl (fun b h => by cases h)) (PW.nil _))))
theorem hush_false2 (w : World) (g d : Int) (hg0 : 0 ≤ g) (hg1 : g ≤ 4294967295) (hd0 : -9223372036854775808 ≤ d) (hd1 : d ≤ 9223372036854775807) (c0 : ¬ (g ≤ 3758096385)) (c1 : ¬ (g ≥ 4026531840)) (c2 : ¬ (d ≤ 0)) : Calls Try.prog 8 #[.int .u32 g, .bool false, .int .i64 d] w (fun e w' => e = .returned (.bool true) ∧ Only [] w w') := by
  letI : Env := env [.int .u32 g, .int .i64 d, .int .i64 d, .int .i64 (d % 10), .int .i64 ((d % 10) + 0), .int .i64 (((d % 10) + 0) % 10), .int .i64 (1 + (((d % 10) + 0) % 10)), .int .i64 (9223372036854775807 - (1 + (((d % 10) + 0) % 10))), .int .i64 (0 + (1 + (((d % 10) + 0) % 10)))]
  have hpl : ∀ e ∈ ([] : List PEnt), PEntOK e := by
    intro e he
    cases he
  refine lawS [.int .u32 g, .int .i64 d, .int .i64 d, .int .i64 (d % 10), .int .i64 ((d % 10) + 0), .int .i64 (((d % 10) + 0) % 10), .int .i64 (1 + (((d % 10) + 0) % 10)), .int .i64 (9223372036854775807 - (1 + (((d % 10) + 0) % 10))), .int .i64 (0 + (1 + (((d % 10) + 0) % 10)))] [.bin .leq (.chan (some 0)) (.int .u32 3758096385) (.bool false), .bin .geq (.chan (some 0)) (.int .u32 4026531840) (.bool false), .mm true (.chan (some 1)) (.int .i64 0) (.chan (some 2)), .bin .rem (.chan (some 2)) (.int .i64 10) (.chan (some 3)), .bin .add (.chan (some 3)) (.int .i64 0) (.chan (some 4)), .bin .rem (.chan (some 4)) (.int .i64 10) (.chan (some 5)), .bin .add (.int .i64 1) (.chan (some 5)) (.chan (some 6)), .bin .sub (.int .i64 9223372036854775807) (.chan (some 6)) (.chan (some 7)), .bin .gtr (.int .i64 0) (.chan (some 7)) (.bool false), .bin .add (.int .i64 0) (.chan (some 6)) (.chan (some 8)), .bin .leq (.chan (some 8)) (.int .i64 1000) (.bool true), .bin .neq (.chan (some 0)) (.chan (some 0)) (.bool false), .bin .lss (.chan (some 0)) (.chan (some 0)) (.bool false), .bin .gtr (.chan (some 0)) (.chan (some 0)) (.bool false), .bin .eql (.chan (some 0)) (.chan (some 0)) (.bool true)] (sp := (spBoth (spSum [(14, true), (33, false), (28, true), (49, false)] []) (spKnown 12))) (spBoth_ok (spSum_ok sumsOK hpl) (spKnown_ok knownBody known)) ?_ (f := 300) (args := [.chan (some 0), .bool false, .chan (some 1)]) (args' := [.int .u32 g, .bool false, .int .i64 d]) (by kernel_rfl) ?_ w
  · intro e he
    simp only [List.mem_cons, List.not_mem_nil, or_false] at he
    rcases he with rfl | rfl | rfl | rfl | rfl | rfl | rfl | rfl | rfl | rfl | rfl | rfl | rfl | rfl | rfl
    · exact entCmp (k := .u32) (a := g) (b := 3758096385) rfl rfl (by show some (decide ((g : Int) ≤ 3758096385)) = some false; rw [decide_eq_false (by first | omega | (simp only [sumVal, oct.sumF, oct.F, oct.ws]; omega))])
    · exact entCmp (k := .u32) (a := g) (b := 4026531840) rfl rfl (by show some (decide ((g : Int) ≥ 4026531840)) = some false; rw [decide_eq_false (by first | omega | (simp only [sumVal, oct.sumF, oct.F, oct.ws]; omega))])
    · exact entMm (k := .i64) (a := d) (b := 0) (c := d) rfl rfl rfl (by first | (simp; done) | (simp; omega) | (split <;> omega))
    · exact (by have h := entRem (P := Try.prog) (x := .chan (some 2)) (y := .int .i64 10) (k := .i64) (a := d) (b := 10) (j := 3) rfl rfl (by rw [Int.tmod_eq_emod_of_nonneg (by first | omega | (simp only [sumVal, oct.sumF, oct.F, oct.ws]; omega))]; rfl) (by omega); exact h)
    · exact entArith (k := .i64) (a := (d % 10)) (b := 0) (c := ((d % 10) + 0)) rfl rfl rfl (by show some (IntKind.i64.wrap (((d % 10) + 0))) = some ((d % 10) + 0); rw [IntWalk.i64_in _ (by first | omega | (simp only [sumVal, oct.sumF, oct.F, oct.ws]; omega))])
    · exact (by have h := entRem (P := Try.prog) (x := .chan (some 4)) (y := .int .i64 10) (k := .i64) (a := ((d % 10) + 0)) (b := 10) (j := 5) rfl rfl (by rw [Int.tmod_eq_emod_of_nonneg (by first | omega | (simp only [sumVal, oct.sumF, oct.F, oct.ws]; omega))]; rfl) (by omega); exact h)
    · exact entArith (k := .i64) (a := 1) (b := (((d % 10) + 0) % 10)) (c := (1 + (((d % 10) + 0) % 10))) rfl rfl rfl (by show some (IntKind.i64.wrap ((1 + (((d % 10) + 0) % 10)))) = some (1 + (((d % 10) + 0) % 10)); rw [IntWalk.i64_in _ (by first | omega | (simp only [sumVal, oct.sumF, oct.F, oct.ws]; omega))])
    · exact entArith (k := .i64) (a := 9223372036854775807) (b := (1 + (((d % 10) + 0) % 10))) (c := (9223372036854775807 - (1 + (((d % 10) + 0) % 10)))) rfl rfl rfl (by show some (IntKind.i64.wrap ((9223372036854775807 - (1 + (((d % 10) + 0) % 10))))) = some (9223372036854775807 - (1 + (((d % 10) + 0) % 10))); rw [IntWalk.i64_in _ (by first | omega | (simp only [sumVal, oct.sumF, oct.F, oct.ws]; omega))])
    · exact entCmp (k := .i64) (a := 0) (b := (9223372036854775807 - (1 + (((d % 10) + 0) % 10)))) rfl rfl (by show some (decide ((0 : Int) > (9223372036854775807 - (1 + (((d % 10) + 0) % 10))))) = some false; rw [decide_eq_false (by first | omega | (simp only [sumVal, oct.sumF, oct.F, oct.ws]; omega))])
    · exact entArith (k := .i64) (a := 0) (b := (1 + (((d % 10) + 0) % 10))) (c := (0 + (1 + (((d % 10) + 0) % 10)))) rfl rfl rfl (by show some (IntKind.i64.wrap ((0 + (1 + (((d % 10) + 0) % 10))))) = some (0 + (1 + (((d % 10) + 0) % 10))); rw [IntWalk.i64_in _ (by first | omega | (simp only [sumVal, oct.sumF, oct.F, oct.ws]; omega))])
    · exact entCmp (k := .i64) (a := (0 + (1 + (((d % 10) + 0) % 10)))) (b := 1000) rfl rfl (by show some (decide (((0 + (1 + (((d % 10) + 0) % 10))) : Int) ≤ 1000)) = some true; rw [decide_eq_true (by first | omega | (simp only [sumVal, oct.sumF, oct.F, oct.ws]; omega))])
    · exact entCmp (k := .u32) (a := g) (b := g) rfl rfl (by show some ((g : Int) != g) = some false; rw [bne_eq_false_iff_eq.2 (by first | omega | (simp only [sumVal, oct.sumF, oct.F, oct.ws]; omega))])
    · exact entCmp (k := .u32) (a := g) (b := g) rfl rfl (by show some (decide ((g : Int) < g)) = some false; rw [decide_eq_false (by first | omega | (simp only [sumVal, oct.sumF, oct.F, oct.ws]; omega))])
    · exact entCmp (k := .u32) (a := g) (b := g) rfl rfl (by show some (decide ((g : Int) > g)) = some false; rw [decide_eq_false (by first | omega | (simp only [sumVal, oct.sumF, oct.F, oct.ws]; omega))])
    · exact entCmp (k := .u32) (a := g) (b := g) rfl rfl (by show some ((g : Int) == g) = some true; rw [beq_iff_eq.2 (by first | omega | (simp only [sumVal, oct.sumF, oct.F, oct.ws]; omega))])
  · exact (PW.cons (.opq 0 rfl (fun b h => by cases h)) (PW.cons (VR.of_flat 6 _ rfl) (PW.cons (.opq 1 rfl (fun b h => by cases h)) (PW.nil _))))
theorem hush_false3 (w : World) (g d : Int) (hg0 : 0 ≤ g) (hg1 : g ≤ 4294967295) (hd0 : -9223372036854775808 ≤ d) (hd1 : d ≤ 9223372036854775807) (c0 : ¬ (g ≤ 3758096385)) (c1 : ¬ (g ≥ 4026531840)) (c2 : d ≤ 0) : Calls Try.prog 8 #[.int .u32 g, .bool false, .int .i64 d] w (fun e w' => e = .returned (.bool true) ∧ Only [] w w') := by
  letI : Env := env [.int .u32 g, .int .i64 d]
  have hpl : ∀ e ∈ ([] : List PEnt), PEntOK e := by
    intro e he
    cases he
  refine lawS [.int .u32 g, .int .i64 d] [.bin .leq (.chan (some 0)) (.int .u32 3758096385) (.bool false), .bin .geq (.chan (some 0)) (.int .u32 4026531840) (.bool false), .mm true (.chan (some 1)) (.int .i64 0) (.int .i64 0), .bin .neq (.chan (some 0)) (.chan (some 0)) (.bool false), .bin .lss (.chan (some 0)) (.chan (some 0)) (.bool false), .bin .gtr (.chan (some 0)) (.chan (some 0)) (.bool false), .bin .eql (.chan (some 0)) (.chan (some 0)) (.bool true)] (sp := (spBoth (spSum [(14, true), (33, false), (28, true), (49, false)] []) (spKnown 12))) (spBoth_ok (spSum_ok sumsOK hpl) (spKnown_ok knownBody known)) ?_ (f := 300) (args := [.chan (some 0), .bool false, .chan (some 1)]) (args' := [.int .u32 g, .bool false, .int .i64 d]) (by kernel_rfl) ?_ w
  · intro e he
    simp only [List.mem_cons, List.not_mem_nil, or_false] at he
    rcases he with rfl | rfl | rfl | rfl | rfl | rfl | rfl
    · exact entCmp (k := .u32) (a := g) (b := 3758096385) rfl rfl (by show some (decide ((g : Int) ≤ 3758096385)) = some false; rw [decide_eq_false (by first | omega | (simp only [sumVal, oct.sumF, oct.F, oct.ws]; omega))])
    · exact entCmp (k := .u32) (a := g) (b := 4026531840) rfl rfl (by show some (decide ((g : Int) ≥ 4026531840)) = some false; rw [decide_eq_false (by first | omega | (simp only [sumVal, oct.sumF, oct.F, oct.ws]; omega))])
    · exact entMmI (k := .i64) (a := d) (b := 0) (c := 0) rfl rfl (by first | (simp; done) | (simp; omega) | (split <;> omega))
    · exact entCmp (k := .u32) (a := g) (b := g) rfl rfl (by show some ((g : Int) != g) = some false; rw [bne_eq_false_iff_eq.2 (by first | omega | (simp only [sumVal, oct.sumF, oct.F, oct.ws]; omega))])
    · exact entCmp (k := .u32) (a := g) (b := g) rfl rfl (by show some (decide ((g : Int) < g)) = some false; rw [decide_eq_false (by first | omega | (simp only [sumVal, oct.sumF, oct.F, oct.ws]; omega))])
    · exact entCmp (k := .u32) (a := g) (b := g) rfl rfl (by show some (decide ((g : Int) > g)) = some false; rw [decide_eq_false (by first | omega | (simp only [sumVal, oct.sumF, oct.F, oct.ws]; omega))])
    · exact entCmp (k := .u32) (a := g) (b := g) rfl rfl (by show some ((g : Int) == g) = some true; rw [beq_iff_eq.2 (by first | omega | (simp only [sumVal, oct.sumF, oct.F, oct.ws]; omega))])
  · exact (PW.cons (.opq 0 rfl (fun b h => by cases h)) (PW.cons (VR.of_flat 6 _ rfl) (PW.cons (.opq 1 rfl (fun b h => by cases h)) (PW.nil _))))
theorem igmpHushes_false (w : World) (g d : Int) (hg0 : 0 ≤ g) (hg1 : g ≤ 4294967295) (hd0 : -9223372036854775808 ≤ d) (hd1 : d ≤ 9223372036854775807) : Calls Try.prog 8 #[.int .u32 g, .bool false, .int .i64 d] w (fun e w' => e = .returned (.bool true) ∧ Only [] w w') := by
  by_cases h1 : g ≤ 3758096385
  ·
    exact hush_false0 w g d hg0 hg1 hd0 hd1 h1
  ·
    by_cases h2 : g ≥ 4026531840
    ·
      exact hush_false1 w g d hg0 hg1 hd0 hd1 h1 h2
    ·
      by_cases h3 : d ≤ 0
      ·
        exact hush_false3 w g d hg0 hg1 hd0 hd1 h1 h2 h3
      ·
        exact hush_false2 w g d hg0 hg1 hd0 hd1 h1 h2 h3
theorem igmpHushes (w : World) (g : Int) (b : Bool) (d : Int) (hg0 : 0 ≤ g) (hg1 : g ≤ 4294967295) (hd0 : -9223372036854775808 ≤ d) (hd1 : d ≤ 9223372036854775807) : Calls Try.prog 8 #[.int .u32 g, .bool b, .int .i64 d] w (fun e w' => e = .returned (.bool true) ∧ Only [] w w') := by
  cases b with
  | true => exact igmpHushes_true w g d hg0 hg1 hd0 hd1
  | false => exact igmpHushes_false w g d hg0 hg1 hd0 hd1
end Go.Proofs.Ytodcjokafjdhdaa.ev
