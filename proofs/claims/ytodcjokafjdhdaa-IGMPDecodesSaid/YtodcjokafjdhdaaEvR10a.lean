/-
  IGMPDecodes, by a run of each path over rows of bytes that are not looked into. Conditions: none.
-/
import Derived.Test.YtodcjokafjdhdaaEvUs
import Derived.Test.YtodcjokafjdhdaaEvP10
import Derived.Test.YtodcjokafjdhdaaHlp10
import Derived.Test.YtodcjokafjdhdaaEvV
import Derived.Test.YtodcjokafjdhdaaEvBd
import Derived.KernelRfl
import Derived.DeepKeys
namespace Go.Proofs.Ytodcjokafjdhdaa.ev
set_option maxRecDepth 1000000
set_option linter.unusedVariables false
set_option linter.unusedSimpArgs false
open Go.ChangeShapes Go.WideShapes Go.ChangeAt Go.RowKit Go.IntWalk Go.Lib
theorem helpC : HelpC Try.prog ⟨11, 15, 17, 5⟩ :=
  ⟨hasBody_of (by kernel_rfl), hasBody_of (by kernel_rfl), hasBody_of (by kernel_rfl), fun w A B n m c d x y hx hy hn hm => hlp.same w A B n m c d x y hx hy hn hm, fun w A n c l hl hc hn => hlp.roomy w A n c l hl hc hn, fun w A B n cap d l hx hc hy hn => hlp.stands w A B n cap d l hx hc hy hn⟩
abbrev IGMPDecodesRow0V (R : Nat → Int) (hR : ∀ j, 0 ≤ R j ∧ R j ≤ 255) (n0 : Nat) : Env := envR [.int .i64 (n0 : Int)] R hR
def IGMPDecodesRow0K (R : Nat → Int) (n0 : Nat) : Prop := ((n0 : Int) > 2000) ∧ True
def IGMPDecodesRow0e0 : Ent := .bin .gtr (.chan (some 0)) (.int .i64 2000) (.bool true)
theorem IGMPDecodesRow0e0_ok (w : World) (R : Nat → Int) (hR : ∀ j, 0 ≤ R j ∧ R j ≤ 255) (A0 : Addr) (n0 cp0 : Nat) (w0 : RowIn R 1048576 w A0 n0 cp0) (hn : n0 ≤ 70000) (hm : 1 ≤ n0) (hk : IGMPDecodesRow0K R n0) : @EntOK (IGMPDecodesRow0V R hR n0) Try.prog IGMPDecodesRow0e0 := by
  letI : Env := (IGMPDecodesRow0V R hR n0)
  obtain ⟨k0, _⟩ := hk; exact entCmp (k := .i64) (a := (n0 : Int)) (b := 2000) rfl rfl (by show some (decide (((n0 : Int) : Int) > 2000)) = some true; rw [decide_eq_true (by first | omega | (simp only [sumVal, oct.sumF, oct.F, oct.ws]; omega))])
set_option maxHeartbeats 4000000 in
theorem IGMPDecodesRow0 (w : World) (R : Nat → Int) (hR : ∀ j, 0 ≤ R j ∧ R j ≤ 255) (A0 : Addr) (n0 cp0 : Nat) (w0 : RowIn R 1048576 w A0 n0 cp0) (hn : n0 ≤ 70000) (hm : 1 ≤ n0) (k0 : (n0 : Int) > 2000) : Calls Try.prog 4 #[.slice (some A0) n0 cp0] w (fun e w' => e = .returned (.bool true) ∧ Only [] w w') := by
  letI : Env := (IGMPDecodesRow0V R hR n0)
  have hk : IGMPDecodesRow0K R n0 := ⟨k0, trivial⟩
  have hents : ∀ e ∈ ([IGMPDecodesRow0e0] : List Ent), EntOK Try.prog e := (allECons (IGMPDecodesRow0e0_ok w R hR A0 n0 cp0 w0 hn hm hk) allENil)
  have hsents : ∀ e ∈ ([] : List SEnt), SEntOK e := by
    intro e he
    cases he
  have hsp : SpOK Try.prog (spTwo (spSumS [(14, true), (33, false), (28, true), (49, false)] []) (spTwo (spSum [(14, true), (33, false), (28, true), (49, false)] []) (spTwo (spHelp ⟨11, 15, 17, 5⟩ [0]) (spKnown 12)))) := (spTwo_ok (spSumS_ok sumsOK hsents) (spTwo_ok (spSum_ok sumsOK (fun e h => by cases h)) (spTwo_ok (spHelp_ok helpC (by
    intro q hq
    simp only [List.mem_cons, List.not_mem_nil, or_false] at hq
    subst hq
    rw [lenOf_eq (n := n0) rfl]; omega)) (spKnown_ok knownBody known))))
  refine lawR (tab := tabG Try.prog [IGMPDecodesRow0e0]) (sp := (spTwo (spSumS [(14, true), (33, false), (28, true), (49, false)] []) (spTwo (spSum [(14, true), (33, false), (28, true), (49, false)] []) (spTwo (spHelp ⟨11, 15, 17, 5⟩ [0]) (spKnown 12))))) hsp (tabG_ok hents) (f := 300) (args := [.slice (some ⟨0, 0, some 1⟩) 1 0]) (args' := [.slice (some A0) n0 cp0]) (c0 := 1) (h0 := mem1 (rowAo 1048576 0 1 5)) (β0 := mp1 (rowIm A0 n0)) (w := w) (by kernel_rfl) (sim1 rfl w0.lt (rowIn_ob w0 (by decide) rfl (by omega))) (fun i hi => ?_) ?_
  · match i, hi with
    | i + 1, _ => rfl
  · exact (PW.cons (rowIn_vr (m := 1) w0 rfl (by omega) (by omega) rfl) (PW.nil _))
abbrev IGMPDecodesRow1V (R : Nat → Int) (hR : ∀ j, 0 ≤ R j ∧ R j ≤ 255) (n0 : Nat) : Env := envR [.int .i64 (n0 : Int)] R hR
def IGMPDecodesRow1K (R : Nat → Int) (n0 : Nat) : Prop := (¬ ((n0 : Int) > 2000)) ∧ ((n0 : Int) < 8) ∧ True
def IGMPDecodesRow1e0 : Ent := .bin .gtr (.chan (some 0)) (.int .i64 2000) (.bool false)
theorem IGMPDecodesRow1e0_ok (w : World) (R : Nat → Int) (hR : ∀ j, 0 ≤ R j ∧ R j ≤ 255) (A0 : Addr) (n0 cp0 : Nat) (w0 : RowIn R 1048576 w A0 n0 cp0) (hn : n0 ≤ 70000) (hm : 1 ≤ n0) (hk : IGMPDecodesRow1K R n0) : @EntOK (IGMPDecodesRow1V R hR n0) Try.prog IGMPDecodesRow1e0 := by
  letI : Env := (IGMPDecodesRow1V R hR n0)
  obtain ⟨k0, k1, _⟩ := hk; exact entCmp (k := .i64) (a := (n0 : Int)) (b := 2000) rfl rfl (by show some (decide (((n0 : Int) : Int) > 2000)) = some false; rw [decide_eq_false (by first | omega | (simp only [sumVal, oct.sumF, oct.F, oct.ws]; omega))])
def IGMPDecodesRow1e1 : Ent := .bin .lss (.chan (some 0)) (.int .i64 8) (.bool true)
theorem IGMPDecodesRow1e1_ok (w : World) (R : Nat → Int) (hR : ∀ j, 0 ≤ R j ∧ R j ≤ 255) (A0 : Addr) (n0 cp0 : Nat) (w0 : RowIn R 1048576 w A0 n0 cp0) (hn : n0 ≤ 70000) (hm : 1 ≤ n0) (hk : IGMPDecodesRow1K R n0) : @EntOK (IGMPDecodesRow1V R hR n0) Try.prog IGMPDecodesRow1e1 := by
  letI : Env := (IGMPDecodesRow1V R hR n0)
  obtain ⟨k0, k1, _⟩ := hk; exact entCmp (k := .i64) (a := (n0 : Int)) (b := 8) rfl rfl (by show some (decide (((n0 : Int) : Int) < 8)) = some true; rw [decide_eq_true (by first | omega | (simp only [sumVal, oct.sumF, oct.F, oct.ws]; omega))])
set_option maxHeartbeats 4000000 in
theorem IGMPDecodesRow1 (w : World) (R : Nat → Int) (hR : ∀ j, 0 ≤ R j ∧ R j ≤ 255) (A0 : Addr) (n0 cp0 : Nat) (w0 : RowIn R 1048576 w A0 n0 cp0) (hn : n0 ≤ 70000) (hm : 1 ≤ n0) (k0 : ¬ ((n0 : Int) > 2000)) (k1 : (n0 : Int) < 8) : Calls Try.prog 4 #[.slice (some A0) n0 cp0] w (fun e w' => e = .returned (.bool true) ∧ Only [] w w') := by
  letI : Env := (IGMPDecodesRow1V R hR n0)
  have hk : IGMPDecodesRow1K R n0 := ⟨k0, k1, trivial⟩
  have hents : ∀ e ∈ ([IGMPDecodesRow1e0, IGMPDecodesRow1e1] : List Ent), EntOK Try.prog e := (allECons (IGMPDecodesRow1e0_ok w R hR A0 n0 cp0 w0 hn hm hk) (allECons (IGMPDecodesRow1e1_ok w R hR A0 n0 cp0 w0 hn hm hk) allENil))
  have hsents : ∀ e ∈ ([] : List SEnt), SEntOK e := by
    intro e he
    cases he
  have hsp : SpOK Try.prog (spTwo (spSumS [(14, true), (33, false), (28, true), (49, false)] []) (spTwo (spSum [(14, true), (33, false), (28, true), (49, false)] []) (spTwo (spHelp ⟨11, 15, 17, 5⟩ [0]) (spKnown 12)))) := (spTwo_ok (spSumS_ok sumsOK hsents) (spTwo_ok (spSum_ok sumsOK (fun e h => by cases h)) (spTwo_ok (spHelp_ok helpC (by
    intro q hq
    simp only [List.mem_cons, List.not_mem_nil, or_false] at hq
    subst hq
    rw [lenOf_eq (n := n0) rfl]; omega)) (spKnown_ok knownBody known))))
  refine lawR (tab := tabG Try.prog [IGMPDecodesRow1e0, IGMPDecodesRow1e1]) (sp := (spTwo (spSumS [(14, true), (33, false), (28, true), (49, false)] []) (spTwo (spSum [(14, true), (33, false), (28, true), (49, false)] []) (spTwo (spHelp ⟨11, 15, 17, 5⟩ [0]) (spKnown 12))))) hsp (tabG_ok hents) (f := 300) (args := [.slice (some ⟨0, 0, some 1⟩) 1 0]) (args' := [.slice (some A0) n0 cp0]) (c0 := 1) (h0 := mem1 (rowAo 1048576 0 1 5)) (β0 := mp1 (rowIm A0 n0)) (w := w) (by kernel_rfl) (sim1 rfl w0.lt (rowIn_ob w0 (by decide) rfl (by omega))) (fun i hi => ?_) ?_
  · match i, hi with
    | i + 1, _ => rfl
  · exact (PW.cons (rowIn_vr (m := 1) w0 rfl (by omega) (by omega) rfl) (PW.nil _))
abbrev IGMPDecodesRow2V (R : Nat → Int) (hR : ∀ j, 0 ≤ R j ∧ R j ≤ 255) (n0 : Nat) : Env := envR [.int .i64 (n0 : Int), .int .i64 (sumVal true (rowL R 1048576 n0))] R hR
def IGMPDecodesRow2K (R : Nat → Int) (n0 : Nat) : Prop := (¬ ((n0 : Int) > 2000)) ∧ (¬ ((n0 : Int) < 8)) ∧ (¬ ((sumVal true (rowL R 1048576 n0)) = 0)) ∧ True
def IGMPDecodesRow2e0 : Ent := .bin .gtr (.chan (some 0)) (.int .i64 2000) (.bool false)
theorem IGMPDecodesRow2e0_ok (w : World) (R : Nat → Int) (hR : ∀ j, 0 ≤ R j ∧ R j ≤ 255) (A0 : Addr) (n0 cp0 : Nat) (w0 : RowIn R 1048576 w A0 n0 cp0) (hn : n0 ≤ 70000) (hm : 1 ≤ n0) (hk : IGMPDecodesRow2K R n0) : @EntOK (IGMPDecodesRow2V R hR n0) Try.prog IGMPDecodesRow2e0 := by
  letI : Env := (IGMPDecodesRow2V R hR n0)
  obtain ⟨k0, k1, k2, _⟩ := hk; have rb1048576 := hR 1048576; have sb0 := sumVal_bd true (rowL R 1048576 n0) (rowL_bd hR _ _); exact entCmp (k := .i64) (a := (n0 : Int)) (b := 2000) rfl rfl (by show some (decide (((n0 : Int) : Int) > 2000)) = some false; rw [decide_eq_false (by first | omega | (simp only [sumVal, oct.sumF, oct.F, oct.ws]; omega))])
def IGMPDecodesRow2e1 : Ent := .bin .lss (.chan (some 0)) (.int .i64 8) (.bool false)
theorem IGMPDecodesRow2e1_ok (w : World) (R : Nat → Int) (hR : ∀ j, 0 ≤ R j ∧ R j ≤ 255) (A0 : Addr) (n0 cp0 : Nat) (w0 : RowIn R 1048576 w A0 n0 cp0) (hn : n0 ≤ 70000) (hm : 1 ≤ n0) (hk : IGMPDecodesRow2K R n0) : @EntOK (IGMPDecodesRow2V R hR n0) Try.prog IGMPDecodesRow2e1 := by
  letI : Env := (IGMPDecodesRow2V R hR n0)
  obtain ⟨k0, k1, k2, _⟩ := hk; have rb1048576 := hR 1048576; have sb0 := sumVal_bd true (rowL R 1048576 n0) (rowL_bd hR _ _); exact entCmp (k := .i64) (a := (n0 : Int)) (b := 8) rfl rfl (by show some (decide (((n0 : Int) : Int) < 8)) = some false; rw [decide_eq_false (by first | omega | (simp only [sumVal, oct.sumF, oct.F, oct.ws]; omega))])
def IGMPDecodesRow2e2 : Ent := .bin .neq (.chan (some 1)) (.int .i64 0) (.bool true)
theorem IGMPDecodesRow2e2_ok (w : World) (R : Nat → Int) (hR : ∀ j, 0 ≤ R j ∧ R j ≤ 255) (A0 : Addr) (n0 cp0 : Nat) (w0 : RowIn R 1048576 w A0 n0 cp0) (hn : n0 ≤ 70000) (hm : 1 ≤ n0) (hk : IGMPDecodesRow2K R n0) : @EntOK (IGMPDecodesRow2V R hR n0) Try.prog IGMPDecodesRow2e2 := by
  letI : Env := (IGMPDecodesRow2V R hR n0)
  obtain ⟨k0, k1, k2, _⟩ := hk; have rb1048576 := hR 1048576; have sb0 := sumVal_bd true (rowL R 1048576 n0) (rowL_bd hR _ _); exact entCmp (k := .i64) (a := (sumVal true (rowL R 1048576 n0))) (b := 0) rfl rfl (by show some (((sumVal true (rowL R 1048576 n0)) : Int) != 0) = some true; rw [bne_iff_ne.2 (by first | omega | (simp only [sumVal, oct.sumF, oct.F, oct.ws]; omega))])
set_option maxHeartbeats 4000000 in
theorem IGMPDecodesRow2 (w : World) (R : Nat → Int) (hR : ∀ j, 0 ≤ R j ∧ R j ≤ 255) (A0 : Addr) (n0 cp0 : Nat) (w0 : RowIn R 1048576 w A0 n0 cp0) (hn : n0 ≤ 70000) (hm : 1 ≤ n0) (k0 : ¬ ((n0 : Int) > 2000)) (k1 : ¬ ((n0 : Int) < 8)) (k2 : ¬ ((sumVal true (rowL R 1048576 n0)) = 0)) : Calls Try.prog 4 #[.slice (some A0) n0 cp0] w (fun e w' => e = .returned (.bool true) ∧ Only [] w w') := by
  letI : Env := (IGMPDecodesRow2V R hR n0)
  have hk : IGMPDecodesRow2K R n0 := ⟨k0, k1, k2, trivial⟩
  have hents : ∀ e ∈ ([IGMPDecodesRow2e0, IGMPDecodesRow2e1, IGMPDecodesRow2e2] : List Ent), EntOK Try.prog e := (allECons (IGMPDecodesRow2e0_ok w R hR A0 n0 cp0 w0 hn hm hk) (allECons (IGMPDecodesRow2e1_ok w R hR A0 n0 cp0 w0 hn hm hk) (allECons (IGMPDecodesRow2e2_ok w R hR A0 n0 cp0 w0 hn hm hk) allENil)))
  have hsents : ∀ e ∈ ([⟨true, .sym 1048576 0 0 8, .chan (some 1)⟩] : List SEnt), SEntOK e := by
    intro e he
    simp only [List.mem_cons, List.not_mem_nil, or_false] at he
    subst he
    · exact sEnt_sym (n := n0) (j := 1) (by decide) rfl rfl
  have hsp : SpOK Try.prog (spTwo (spSumS [(14, true), (33, false), (28, true), (49, false)] [⟨true, .sym 1048576 0 0 8, .chan (some 1)⟩]) (spTwo (spSum [(14, true), (33, false), (28, true), (49, false)] []) (spTwo (spHelp ⟨11, 15, 17, 5⟩ [0]) (spKnown 12)))) := (spTwo_ok (spSumS_ok sumsOK hsents) (spTwo_ok (spSum_ok sumsOK (fun e h => by cases h)) (spTwo_ok (spHelp_ok helpC (by
    intro q hq
    simp only [List.mem_cons, List.not_mem_nil, or_false] at hq
    subst hq
    rw [lenOf_eq (n := n0) rfl]; omega)) (spKnown_ok knownBody known))))
  refine lawR (tab := tabG Try.prog [IGMPDecodesRow2e0, IGMPDecodesRow2e1, IGMPDecodesRow2e2]) (sp := (spTwo (spSumS [(14, true), (33, false), (28, true), (49, false)] [⟨true, .sym 1048576 0 0 8, .chan (some 1)⟩]) (spTwo (spSum [(14, true), (33, false), (28, true), (49, false)] []) (spTwo (spHelp ⟨11, 15, 17, 5⟩ [0]) (spKnown 12))))) hsp (tabG_ok hents) (f := 300) (args := [.slice (some ⟨0, 0, some 1⟩) 8 0]) (args' := [.slice (some A0) n0 cp0]) (c0 := 1) (h0 := mem1 (rowAo 1048576 0 8 5)) (β0 := mp1 (rowIm A0 n0)) (w := w) (by kernel_rfl) (sim1 rfl w0.lt (rowIn_ob w0 (by decide) rfl (by omega))) (fun i hi => ?_) ?_
  · match i, hi with
    | i + 1, _ => rfl
  · exact (PW.cons (rowIn_vr (m := 8) w0 rfl (by omega) (by omega) rfl) (PW.nil _))
abbrev IGMPDecodesRow3V (R : Nat → Int) (hR : ∀ j, 0 ≤ R j ∧ R j ≤ 255) (n0 : Nat) : Env := envR [.int .i64 (n0 : Int), .int .i64 (sumVal true (rowL R 1048576 n0)), .int .u32 (R 1048576), .int .u32 (R 1048576), .int .i64 (R 1048576), .int .u32 (R 1048577), .int .u32 (R 1048577), .int .i64 (R 1048577), .int .u32 (R 1048578), .int .u32 (R 1048578), .int .u32 ((R 1048578) * 256), .int .u32 (R 1048579), .int .u32 (((R 1048578) * 256) + (R 1048579)), .int .i64 (((R 1048578) * 256) + (R 1048579)), .int .u32 (R 1048580), .int .u32 (R 1048580), .int .u32 ((R 1048580) * 256), .int .u32 (R 1048581), .int .u32 (((R 1048580) * 256) + (R 1048581)), .int .u32 ((((R 1048580) * 256) + (R 1048581)) * 256), .int .u32 (R 1048582), .int .u32 (((((R 1048580) * 256) + (R 1048581)) * 256) + (R 1048582)), .int .u32 ((((((R 1048580) * 256) + (R 1048581)) * 256) + (R 1048582)) * 256), .int .u32 (R 1048583), .int .u32 (((((((R 1048580) * 256) + (R 1048581)) * 256) + (R 1048582)) * 256) + (R 1048583)), .int .i64 (R 1048576), .int .i64 (R 1048577), .int .u32 ((R 1048580) * 16777216), .int .u32 ((R 1048581) * 65536), .int .u32 (((R 1048580) * 16777216) + ((R 1048581) * 65536)), .int .u32 ((R 1048582) * 256), .int .u32 ((((R 1048580) * 16777216) + ((R 1048581) * 65536)) + ((R 1048582) * 256)), .int .u32 (((((R 1048580) * 16777216) + ((R 1048581) * 65536)) + ((R 1048582) * 256)) + (R 1048583))] R hR
def IGMPDecodesRow3K (R : Nat → Int) (n0 : Nat) : Prop := (¬ ((n0 : Int) > 2000)) ∧ (¬ ((n0 : Int) < 8)) ∧ ((sumVal true (rowL R 1048576 n0)) = 0) ∧ True
def IGMPDecodesRow3e0 : Ent := .bin .gtr (.chan (some 0)) (.int .i64 2000) (.bool false)
theorem IGMPDecodesRow3e0_ok (w : World) (R : Nat → Int) (hR : ∀ j, 0 ≤ R j ∧ R j ≤ 255) (A0 : Addr) (n0 cp0 : Nat) (w0 : RowIn R 1048576 w A0 n0 cp0) (hn : n0 ≤ 70000) (hm : 1 ≤ n0) (hk : IGMPDecodesRow3K R n0) : @EntOK (IGMPDecodesRow3V R hR n0) Try.prog IGMPDecodesRow3e0 := by
  letI : Env := (IGMPDecodesRow3V R hR n0)
  obtain ⟨k0, k1, k2, _⟩ := hk; have rb1048576 := hR 1048576; have sb0 := sumVal_bd true (rowL R 1048576 n0) (rowL_bd hR _ _); exact entCmp (k := .i64) (a := (n0 : Int)) (b := 2000) rfl rfl (by show some (decide (((n0 : Int) : Int) > 2000)) = some false; rw [decide_eq_false (by first | omega | (simp only [sumVal, oct.sumF, oct.F, oct.ws]; omega))])
def IGMPDecodesRow3e1 : Ent := .bin .lss (.chan (some 0)) (.int .i64 8) (.bool false)
theorem IGMPDecodesRow3e1_ok (w : World) (R : Nat → Int) (hR : ∀ j, 0 ≤ R j ∧ R j ≤ 255) (A0 : Addr) (n0 cp0 : Nat) (w0 : RowIn R 1048576 w A0 n0 cp0) (hn : n0 ≤ 70000) (hm : 1 ≤ n0) (hk : IGMPDecodesRow3K R n0) : @EntOK (IGMPDecodesRow3V R hR n0) Try.prog IGMPDecodesRow3e1 := by
  letI : Env := (IGMPDecodesRow3V R hR n0)
  obtain ⟨k0, k1, k2, _⟩ := hk; have rb1048576 := hR 1048576; have sb0 := sumVal_bd true (rowL R 1048576 n0) (rowL_bd hR _ _); exact entCmp (k := .i64) (a := (n0 : Int)) (b := 8) rfl rfl (by show some (decide (((n0 : Int) : Int) < 8)) = some false; rw [decide_eq_false (by first | omega | (simp only [sumVal, oct.sumF, oct.F, oct.ws]; omega))])
def IGMPDecodesRow3e2 : Ent := .bin .neq (.chan (some 1)) (.int .i64 0) (.bool false)
theorem IGMPDecodesRow3e2_ok (w : World) (R : Nat → Int) (hR : ∀ j, 0 ≤ R j ∧ R j ≤ 255) (A0 : Addr) (n0 cp0 : Nat) (w0 : RowIn R 1048576 w A0 n0 cp0) (hn : n0 ≤ 70000) (hm : 1 ≤ n0) (hk : IGMPDecodesRow3K R n0) : @EntOK (IGMPDecodesRow3V R hR n0) Try.prog IGMPDecodesRow3e2 := by
  letI : Env := (IGMPDecodesRow3V R hR n0)
  obtain ⟨k0, k1, k2, _⟩ := hk; have rb1048576 := hR 1048576; have sb0 := sumVal_bd true (rowL R 1048576 n0) (rowL_bd hR _ _); exact entCmp (k := .i64) (a := (sumVal true (rowL R 1048576 n0))) (b := 0) rfl rfl (by show some (((sumVal true (rowL R 1048576 n0)) : Int) != 0) = some false; rw [bne_eq_false_iff_eq.2 (by first | omega | (simp only [sumVal, oct.sumF, oct.F, oct.ws]; omega))])
def IGMPDecodesRow3e3 : Ent := .conv .u32 (.chan (some 1048576)) (.chan (some 2))
theorem IGMPDecodesRow3e3_ok (w : World) (R : Nat → Int) (hR : ∀ j, 0 ≤ R j ∧ R j ≤ 255) (A0 : Addr) (n0 cp0 : Nat) (w0 : RowIn R 1048576 w A0 n0 cp0) (hn : n0 ≤ 70000) (hm : 1 ≤ n0) (hk : IGMPDecodesRow3K R n0) : @EntOK (IGMPDecodesRow3V R hR n0) Try.prog IGMPDecodesRow3e3 := by
  letI : Env := (IGMPDecodesRow3V R hR n0)
  obtain ⟨k0, k1, k2, _⟩ := hk; have rb1048576 := hR 1048576; have sb0 := sumVal_bd true (rowL R 1048576 n0) (rowL_bd hR _ _); exact entConvV (k := .u32) (l := .u8) (a := (R 1048576)) (c := (R 1048576)) rfl rfl (by rw [IntWalk.u32_in _ (by first | omega | (simp only [sumVal, oct.sumF, oct.F, oct.ws]; omega))])
def IGMPDecodesRow3e4 : Ent := .bin .or (.int .u32 0) (.chan (some 2)) (.chan (some 3))
theorem IGMPDecodesRow3e4_ok (w : World) (R : Nat → Int) (hR : ∀ j, 0 ≤ R j ∧ R j ≤ 255) (A0 : Addr) (n0 cp0 : Nat) (w0 : RowIn R 1048576 w A0 n0 cp0) (hn : n0 ≤ 70000) (hm : 1 ≤ n0) (hk : IGMPDecodesRow3K R n0) : @EntOK (IGMPDecodesRow3V R hR n0) Try.prog IGMPDecodesRow3e4 := by
  letI : Env := (IGMPDecodesRow3V R hR n0)
  obtain ⟨k0, k1, k2, _⟩ := hk; have rb1048576 := hR 1048576; have sb0 := sumVal_bd true (rowL R 1048576 n0) (rowL_bd hR _ _); exact entOrV (k := .u32) (a := 0) (b := (R 1048576)) (c := (R 1048576)) rfl rfl rfl (by have h := join_u32 0 (R 1048576) 8 256 (by decide) (by omega) (by first | omega | (simp only [sumVal, oct.sumF, oct.F, oct.ws]; omega)) (by first | omega | (simp only [sumVal, oct.sumF, oct.F, oct.ws]; omega)) (by first | omega | (simp only [sumVal, oct.sumF, oct.F, oct.ws]; omega)); simpa using h)
def IGMPDecodesRow3e5 : Ent := .conv .i64 (.chan (some 3)) (.chan (some 4))
theorem IGMPDecodesRow3e5_ok (w : World) (R : Nat → Int) (hR : ∀ j, 0 ≤ R j ∧ R j ≤ 255) (A0 : Addr) (n0 cp0 : Nat) (w0 : RowIn R 1048576 w A0 n0 cp0) (hn : n0 ≤ 70000) (hm : 1 ≤ n0) (hk : IGMPDecodesRow3K R n0) : @EntOK (IGMPDecodesRow3V R hR n0) Try.prog IGMPDecodesRow3e5 := by
  letI : Env := (IGMPDecodesRow3V R hR n0)
  obtain ⟨k0, k1, k2, _⟩ := hk; have rb1048576 := hR 1048576; have sb0 := sumVal_bd true (rowL R 1048576 n0) (rowL_bd hR _ _); exact entConvV (k := .i64) (l := .u32) (a := (R 1048576)) (c := (R 1048576)) rfl rfl (by rw [IntWalk.i64_in _ (by first | omega | (simp only [sumVal, oct.sumF, oct.F, oct.ws]; omega))])
def IGMPDecodesRow3e6 : Ent := .conv .u32 (.chan (some 1048577)) (.chan (some 5))
theorem IGMPDecodesRow3e6_ok (w : World) (R : Nat → Int) (hR : ∀ j, 0 ≤ R j ∧ R j ≤ 255) (A0 : Addr) (n0 cp0 : Nat) (w0 : RowIn R 1048576 w A0 n0 cp0) (hn : n0 ≤ 70000) (hm : 1 ≤ n0) (hk : IGMPDecodesRow3K R n0) : @EntOK (IGMPDecodesRow3V R hR n0) Try.prog IGMPDecodesRow3e6 := by
  letI : Env := (IGMPDecodesRow3V R hR n0)
  obtain ⟨k0, k1, k2, _⟩ := hk; have rb1048576 := hR 1048576; have rb1048577 := hR 1048577; have sb0 := sumVal_bd true (rowL R 1048576 n0) (rowL_bd hR _ _); exact entConvV (k := .u32) (l := .u8) (a := (R 1048577)) (c := (R 1048577)) rfl rfl (by rw [IntWalk.u32_in _ (by first | omega | (simp only [sumVal, oct.sumF, oct.F, oct.ws]; omega))])
def IGMPDecodesRow3e7 : Ent := .bin .or (.int .u32 0) (.chan (some 5)) (.chan (some 6))
theorem IGMPDecodesRow3e7_ok (w : World) (R : Nat → Int) (hR : ∀ j, 0 ≤ R j ∧ R j ≤ 255) (A0 : Addr) (n0 cp0 : Nat) (w0 : RowIn R 1048576 w A0 n0 cp0) (hn : n0 ≤ 70000) (hm : 1 ≤ n0) (hk : IGMPDecodesRow3K R n0) : @EntOK (IGMPDecodesRow3V R hR n0) Try.prog IGMPDecodesRow3e7 := by
  letI : Env := (IGMPDecodesRow3V R hR n0)
  obtain ⟨k0, k1, k2, _⟩ := hk; have rb1048576 := hR 1048576; have rb1048577 := hR 1048577; have sb0 := sumVal_bd true (rowL R 1048576 n0) (rowL_bd hR _ _); exact entOrV (k := .u32) (a := 0) (b := (R 1048577)) (c := (R 1048577)) rfl rfl rfl (by have h := join_u32 0 (R 1048577) 8 256 (by decide) (by omega) (by first | omega | (simp only [sumVal, oct.sumF, oct.F, oct.ws]; omega)) (by first | omega | (simp only [sumVal, oct.sumF, oct.F, oct.ws]; omega)) (by first | omega | (simp only [sumVal, oct.sumF, oct.F, oct.ws]; omega)); simpa using h)
def IGMPDecodesRow3e8 : Ent := .conv .i64 (.chan (some 6)) (.chan (some 7))
theorem IGMPDecodesRow3e8_ok (w : World) (R : Nat → Int) (hR : ∀ j, 0 ≤ R j ∧ R j ≤ 255) (A0 : Addr) (n0 cp0 : Nat) (w0 : RowIn R 1048576 w A0 n0 cp0) (hn : n0 ≤ 70000) (hm : 1 ≤ n0) (hk : IGMPDecodesRow3K R n0) : @EntOK (IGMPDecodesRow3V R hR n0) Try.prog IGMPDecodesRow3e8 := by
  letI : Env := (IGMPDecodesRow3V R hR n0)
  obtain ⟨k0, k1, k2, _⟩ := hk; have rb1048576 := hR 1048576; have rb1048577 := hR 1048577; have sb0 := sumVal_bd true (rowL R 1048576 n0) (rowL_bd hR _ _); exact entConvV (k := .i64) (l := .u32) (a := (R 1048577)) (c := (R 1048577)) rfl rfl (by rw [IntWalk.i64_in _ (by first | omega | (simp only [sumVal, oct.sumF, oct.F, oct.ws]; omega))])
def IGMPDecodesRow3e9 : Ent := .conv .u32 (.chan (some 1048578)) (.chan (some 8))
theorem IGMPDecodesRow3e9_ok (w : World) (R : Nat → Int) (hR : ∀ j, 0 ≤ R j ∧ R j ≤ 255) (A0 : Addr) (n0 cp0 : Nat) (w0 : RowIn R 1048576 w A0 n0 cp0) (hn : n0 ≤ 70000) (hm : 1 ≤ n0) (hk : IGMPDecodesRow3K R n0) : @EntOK (IGMPDecodesRow3V R hR n0) Try.prog IGMPDecodesRow3e9 := by
  letI : Env := (IGMPDecodesRow3V R hR n0)
  obtain ⟨k0, k1, k2, _⟩ := hk; have rb1048576 := hR 1048576; have rb1048578 := hR 1048578; have sb0 := sumVal_bd true (rowL R 1048576 n0) (rowL_bd hR _ _); exact entConvV (k := .u32) (l := .u8) (a := (R 1048578)) (c := (R 1048578)) rfl rfl (by rw [IntWalk.u32_in _ (by first | omega | (simp only [sumVal, oct.sumF, oct.F, oct.ws]; omega))])
def IGMPDecodesRow3e10 : Ent := .bin .or (.int .u32 0) (.chan (some 8)) (.chan (some 9))
theorem IGMPDecodesRow3e10_ok (w : World) (R : Nat → Int) (hR : ∀ j, 0 ≤ R j ∧ R j ≤ 255) (A0 : Addr) (n0 cp0 : Nat) (w0 : RowIn R 1048576 w A0 n0 cp0) (hn : n0 ≤ 70000) (hm : 1 ≤ n0) (hk : IGMPDecodesRow3K R n0) : @EntOK (IGMPDecodesRow3V R hR n0) Try.prog IGMPDecodesRow3e10 := by
  letI : Env := (IGMPDecodesRow3V R hR n0)
  obtain ⟨k0, k1, k2, _⟩ := hk; have rb1048576 := hR 1048576; have rb1048578 := hR 1048578; have sb0 := sumVal_bd true (rowL R 1048576 n0) (rowL_bd hR _ _); exact entOrV (k := .u32) (a := 0) (b := (R 1048578)) (c := (R 1048578)) rfl rfl rfl (by have h := join_u32 0 (R 1048578) 8 256 (by decide) (by omega) (by first | omega | (simp only [sumVal, oct.sumF, oct.F, oct.ws]; omega)) (by first | omega | (simp only [sumVal, oct.sumF, oct.F, oct.ws]; omega)) (by first | omega | (simp only [sumVal, oct.sumF, oct.F, oct.ws]; omega)); simpa using h)
def IGMPDecodesRow3e11 : Ent := .bin .shl (.chan (some 9)) (.int .u64 8) (.chan (some 10))
theorem IGMPDecodesRow3e11_ok (w : World) (R : Nat → Int) (hR : ∀ j, 0 ≤ R j ∧ R j ≤ 255) (A0 : Addr) (n0 cp0 : Nat) (w0 : RowIn R 1048576 w A0 n0 cp0) (hn : n0 ≤ 70000) (hm : 1 ≤ n0) (hk : IGMPDecodesRow3K R n0) : @EntOK (IGMPDecodesRow3V R hR n0) Try.prog IGMPDecodesRow3e11 := by
  letI : Env := (IGMPDecodesRow3V R hR n0)
  obtain ⟨k0, k1, k2, _⟩ := hk; have rb1048576 := hR 1048576; have rb1048578 := hR 1048578; have sb0 := sumVal_bd true (rowL R 1048576 n0) (rowL_bd hR _ _); exact entShlV (k := .u32) (l := .u64) (a := (R 1048578)) (c := ((R 1048578) * 256)) (s := 8) rfl rfl rfl (by decide) (by show IntKind.u32.wrap ((R 1048578) * 2 ^ 8) = ((R 1048578) * 256); rw [show ((2 : Int) ^ 8) = 256 from by decide, IntWalk.u32_in _ (by first | omega | (simp only [sumVal, oct.sumF, oct.F, oct.ws]; omega))])
def IGMPDecodesRow3e12 : Ent := .conv .u32 (.chan (some 1048579)) (.chan (some 11))
theorem IGMPDecodesRow3e12_ok (w : World) (R : Nat → Int) (hR : ∀ j, 0 ≤ R j ∧ R j ≤ 255) (A0 : Addr) (n0 cp0 : Nat) (w0 : RowIn R 1048576 w A0 n0 cp0) (hn : n0 ≤ 70000) (hm : 1 ≤ n0) (hk : IGMPDecodesRow3K R n0) : @EntOK (IGMPDecodesRow3V R hR n0) Try.prog IGMPDecodesRow3e12 := by
  letI : Env := (IGMPDecodesRow3V R hR n0)
  obtain ⟨k0, k1, k2, _⟩ := hk; have rb1048576 := hR 1048576; have rb1048579 := hR 1048579; have sb0 := sumVal_bd true (rowL R 1048576 n0) (rowL_bd hR _ _); exact entConvV (k := .u32) (l := .u8) (a := (R 1048579)) (c := (R 1048579)) rfl rfl (by rw [IntWalk.u32_in _ (by first | omega | (simp only [sumVal, oct.sumF, oct.F, oct.ws]; omega))])
def IGMPDecodesRow3e13 : Ent := .bin .or (.chan (some 10)) (.chan (some 11)) (.chan (some 12))
theorem IGMPDecodesRow3e13_ok (w : World) (R : Nat → Int) (hR : ∀ j, 0 ≤ R j ∧ R j ≤ 255) (A0 : Addr) (n0 cp0 : Nat) (w0 : RowIn R 1048576 w A0 n0 cp0) (hn : n0 ≤ 70000) (hm : 1 ≤ n0) (hk : IGMPDecodesRow3K R n0) : @EntOK (IGMPDecodesRow3V R hR n0) Try.prog IGMPDecodesRow3e13 := by
  letI : Env := (IGMPDecodesRow3V R hR n0)
  obtain ⟨k0, k1, k2, _⟩ := hk; have rb1048576 := hR 1048576; have rb1048578 := hR 1048578; have rb1048579 := hR 1048579; have sb0 := sumVal_bd true (rowL R 1048576 n0) (rowL_bd hR _ _); exact entOrV (k := .u32) (a := ((R 1048578) * 256)) (b := (R 1048579)) (c := (((R 1048578) * 256) + (R 1048579))) rfl rfl rfl (by exact join_u32 (R 1048578) (R 1048579) 8 256 (by decide) (by first | omega | (simp only [sumVal, oct.sumF, oct.F, oct.ws]; omega)) (by first | omega | (simp only [sumVal, oct.sumF, oct.F, oct.ws]; omega)) (by first | omega | (simp only [sumVal, oct.sumF, oct.F, oct.ws]; omega)) (by first | omega | (simp only [sumVal, oct.sumF, oct.F, oct.ws]; omega)))
def IGMPDecodesRow3e14 : Ent := .conv .i64 (.chan (some 12)) (.chan (some 13))
theorem IGMPDecodesRow3e14_ok (w : World) (R : Nat → Int) (hR : ∀ j, 0 ≤ R j ∧ R j ≤ 255) (A0 : Addr) (n0 cp0 : Nat) (w0 : RowIn R 1048576 w A0 n0 cp0) (hn : n0 ≤ 70000) (hm : 1 ≤ n0) (hk : IGMPDecodesRow3K R n0) : @EntOK (IGMPDecodesRow3V R hR n0) Try.prog IGMPDecodesRow3e14 := by
  letI : Env := (IGMPDecodesRow3V R hR n0)
  obtain ⟨k0, k1, k2, _⟩ := hk; have rb1048576 := hR 1048576; have rb1048578 := hR 1048578; have rb1048579 := hR 1048579; have sb0 := sumVal_bd true (rowL R 1048576 n0) (rowL_bd hR _ _); exact entConvV (k := .i64) (l := .u32) (a := (((R 1048578) * 256) + (R 1048579))) (c := (((R 1048578) * 256) + (R 1048579))) rfl rfl (by rw [IntWalk.i64_in _ (by first | omega | (simp only [sumVal, oct.sumF, oct.F, oct.ws]; omega))])
def IGMPDecodesRow3e15 : Ent := .conv .u32 (.chan (some 1048580)) (.chan (some 14))
theorem IGMPDecodesRow3e15_ok (w : World) (R : Nat → Int) (hR : ∀ j, 0 ≤ R j ∧ R j ≤ 255) (A0 : Addr) (n0 cp0 : Nat) (w0 : RowIn R 1048576 w A0 n0 cp0) (hn : n0 ≤ 70000) (hm : 1 ≤ n0) (hk : IGMPDecodesRow3K R n0) : @EntOK (IGMPDecodesRow3V R hR n0) Try.prog IGMPDecodesRow3e15 := by
  letI : Env := (IGMPDecodesRow3V R hR n0)
  obtain ⟨k0, k1, k2, _⟩ := hk; have rb1048576 := hR 1048576; have rb1048580 := hR 1048580; have sb0 := sumVal_bd true (rowL R 1048576 n0) (rowL_bd hR _ _); exact entConvV (k := .u32) (l := .u8) (a := (R 1048580)) (c := (R 1048580)) rfl rfl (by rw [IntWalk.u32_in _ (by first | omega | (simp only [sumVal, oct.sumF, oct.F, oct.ws]; omega))])
def IGMPDecodesRow3e16 : Ent := .bin .or (.int .u32 0) (.chan (some 14)) (.chan (some 15))
theorem IGMPDecodesRow3e16_ok (w : World) (R : Nat → Int) (hR : ∀ j, 0 ≤ R j ∧ R j ≤ 255) (A0 : Addr) (n0 cp0 : Nat) (w0 : RowIn R 1048576 w A0 n0 cp0) (hn : n0 ≤ 70000) (hm : 1 ≤ n0) (hk : IGMPDecodesRow3K R n0) : @EntOK (IGMPDecodesRow3V R hR n0) Try.prog IGMPDecodesRow3e16 := by
  letI : Env := (IGMPDecodesRow3V R hR n0)
  obtain ⟨k0, k1, k2, _⟩ := hk; have rb1048576 := hR 1048576; have rb1048580 := hR 1048580; have sb0 := sumVal_bd true (rowL R 1048576 n0) (rowL_bd hR _ _); exact entOrV (k := .u32) (a := 0) (b := (R 1048580)) (c := (R 1048580)) rfl rfl rfl (by have h := join_u32 0 (R 1048580) 8 256 (by decide) (by omega) (by first | omega | (simp only [sumVal, oct.sumF, oct.F, oct.ws]; omega)) (by first | omega | (simp only [sumVal, oct.sumF, oct.F, oct.ws]; omega)) (by first | omega | (simp only [sumVal, oct.sumF, oct.F, oct.ws]; omega)); simpa using h)
def IGMPDecodesRow3e17 : Ent := .bin .shl (.chan (some 15)) (.int .u64 8) (.chan (some 16))
theorem IGMPDecodesRow3e17_ok (w : World) (R : Nat → Int) (hR : ∀ j, 0 ≤ R j ∧ R j ≤ 255) (A0 : Addr) (n0 cp0 : Nat) (w0 : RowIn R 1048576 w A0 n0 cp0) (hn : n0 ≤ 70000) (hm : 1 ≤ n0) (hk : IGMPDecodesRow3K R n0) : @EntOK (IGMPDecodesRow3V R hR n0) Try.prog IGMPDecodesRow3e17 := by
  letI : Env := (IGMPDecodesRow3V R hR n0)
  obtain ⟨k0, k1, k2, _⟩ := hk; have rb1048576 := hR 1048576; have rb1048580 := hR 1048580; have sb0 := sumVal_bd true (rowL R 1048576 n0) (rowL_bd hR _ _); exact entShlV (k := .u32) (l := .u64) (a := (R 1048580)) (c := ((R 1048580) * 256)) (s := 8) rfl rfl rfl (by decide) (by show IntKind.u32.wrap ((R 1048580) * 2 ^ 8) = ((R 1048580) * 256); rw [show ((2 : Int) ^ 8) = 256 from by decide, IntWalk.u32_in _ (by first | omega | (simp only [sumVal, oct.sumF, oct.F, oct.ws]; omega))])
def IGMPDecodesRow3e18 : Ent := .conv .u32 (.chan (some 1048581)) (.chan (some 17))
theorem IGMPDecodesRow3e18_ok (w : World) (R : Nat → Int) (hR : ∀ j, 0 ≤ R j ∧ R j ≤ 255) (A0 : Addr) (n0 cp0 : Nat) (w0 : RowIn R 1048576 w A0 n0 cp0) (hn : n0 ≤ 70000) (hm : 1 ≤ n0) (hk : IGMPDecodesRow3K R n0) : @EntOK (IGMPDecodesRow3V R hR n0) Try.prog IGMPDecodesRow3e18 := by
  letI : Env := (IGMPDecodesRow3V R hR n0)
  obtain ⟨k0, k1, k2, _⟩ := hk; have rb1048576 := hR 1048576; have rb1048581 := hR 1048581; have sb0 := sumVal_bd true (rowL R 1048576 n0) (rowL_bd hR _ _); exact entConvV (k := .u32) (l := .u8) (a := (R 1048581)) (c := (R 1048581)) rfl rfl (by rw [IntWalk.u32_in _ (by first | omega | (simp only [sumVal, oct.sumF, oct.F, oct.ws]; omega))])
def IGMPDecodesRow3e19 : Ent := .bin .or (.chan (some 16)) (.chan (some 17)) (.chan (some 18))
theorem IGMPDecodesRow3e19_ok (w : World) (R : Nat → Int) (hR : ∀ j, 0 ≤ R j ∧ R j ≤ 255) (A0 : Addr) (n0 cp0 : Nat) (w0 : RowIn R 1048576 w A0 n0 cp0) (hn : n0 ≤ 70000) (hm : 1 ≤ n0) (hk : IGMPDecodesRow3K R n0) : @EntOK (IGMPDecodesRow3V R hR n0) Try.prog IGMPDecodesRow3e19 := by
  letI : Env := (IGMPDecodesRow3V R hR n0)
  obtain ⟨k0, k1, k2, _⟩ := hk; have rb1048576 := hR 1048576; have rb1048580 := hR 1048580; have rb1048581 := hR 1048581; have sb0 := sumVal_bd true (rowL R 1048576 n0) (rowL_bd hR _ _); exact entOrV (k := .u32) (a := ((R 1048580) * 256)) (b := (R 1048581)) (c := (((R 1048580) * 256) + (R 1048581))) rfl rfl rfl (by exact join_u32 (R 1048580) (R 1048581) 8 256 (by decide) (by first | omega | (simp only [sumVal, oct.sumF, oct.F, oct.ws]; omega)) (by first | omega | (simp only [sumVal, oct.sumF, oct.F, oct.ws]; omega)) (by first | omega | (simp only [sumVal, oct.sumF, oct.F, oct.ws]; omega)) (by first | omega | (simp only [sumVal, oct.sumF, oct.F, oct.ws]; omega)))
def IGMPDecodesRow3e20 : Ent := .bin .shl (.chan (some 18)) (.int .u64 8) (.chan (some 19))
theorem IGMPDecodesRow3e20_ok (w : World) (R : Nat → Int) (hR : ∀ j, 0 ≤ R j ∧ R j ≤ 255) (A0 : Addr) (n0 cp0 : Nat) (w0 : RowIn R 1048576 w A0 n0 cp0) (hn : n0 ≤ 70000) (hm : 1 ≤ n0) (hk : IGMPDecodesRow3K R n0) : @EntOK (IGMPDecodesRow3V R hR n0) Try.prog IGMPDecodesRow3e20 := by
  letI : Env := (IGMPDecodesRow3V R hR n0)
  obtain ⟨k0, k1, k2, _⟩ := hk; have rb1048576 := hR 1048576; have rb1048580 := hR 1048580; have rb1048581 := hR 1048581; have sb0 := sumVal_bd true (rowL R 1048576 n0) (rowL_bd hR _ _); exact entShlV (k := .u32) (l := .u64) (a := (((R 1048580) * 256) + (R 1048581))) (c := ((((R 1048580) * 256) + (R 1048581)) * 256)) (s := 8) rfl rfl rfl (by decide) (by show IntKind.u32.wrap ((((R 1048580) * 256) + (R 1048581)) * 2 ^ 8) = ((((R 1048580) * 256) + (R 1048581)) * 256); rw [show ((2 : Int) ^ 8) = 256 from by decide, IntWalk.u32_in _ (by first | omega | (simp only [sumVal, oct.sumF, oct.F, oct.ws]; omega))])
def IGMPDecodesRow3e21 : Ent := .conv .u32 (.chan (some 1048582)) (.chan (some 20))
theorem IGMPDecodesRow3e21_ok (w : World) (R : Nat → Int) (hR : ∀ j, 0 ≤ R j ∧ R j ≤ 255) (A0 : Addr) (n0 cp0 : Nat) (w0 : RowIn R 1048576 w A0 n0 cp0) (hn : n0 ≤ 70000) (hm : 1 ≤ n0) (hk : IGMPDecodesRow3K R n0) : @EntOK (IGMPDecodesRow3V R hR n0) Try.prog IGMPDecodesRow3e21 := by
  letI : Env := (IGMPDecodesRow3V R hR n0)
  obtain ⟨k0, k1, k2, _⟩ := hk; have rb1048576 := hR 1048576; have rb1048582 := hR 1048582; have sb0 := sumVal_bd true (rowL R 1048576 n0) (rowL_bd hR _ _); exact entConvV (k := .u32) (l := .u8) (a := (R 1048582)) (c := (R 1048582)) rfl rfl (by rw [IntWalk.u32_in _ (by first | omega | (simp only [sumVal, oct.sumF, oct.F, oct.ws]; omega))])
def IGMPDecodesRow3e22 : Ent := .bin .or (.chan (some 19)) (.chan (some 20)) (.chan (some 21))
theorem IGMPDecodesRow3e22_ok (w : World) (R : Nat → Int) (hR : ∀ j, 0 ≤ R j ∧ R j ≤ 255) (A0 : Addr) (n0 cp0 : Nat) (w0 : RowIn R 1048576 w A0 n0 cp0) (hn : n0 ≤ 70000) (hm : 1 ≤ n0) (hk : IGMPDecodesRow3K R n0) : @EntOK (IGMPDecodesRow3V R hR n0) Try.prog IGMPDecodesRow3e22 := by
  letI : Env := (IGMPDecodesRow3V R hR n0)
  obtain ⟨k0, k1, k2, _⟩ := hk; have rb1048576 := hR 1048576; have rb1048580 := hR 1048580; have rb1048581 := hR 1048581; have rb1048582 := hR 1048582; have sb0 := sumVal_bd true (rowL R 1048576 n0) (rowL_bd hR _ _); exact entOrV (k := .u32) (a := ((((R 1048580) * 256) + (R 1048581)) * 256)) (b := (R 1048582)) (c := (((((R 1048580) * 256) + (R 1048581)) * 256) + (R 1048582))) rfl rfl rfl (by exact join_u32 (((R 1048580) * 256) + (R 1048581)) (R 1048582) 8 256 (by decide) (by first | omega | (simp only [sumVal, oct.sumF, oct.F, oct.ws]; omega)) (by first | omega | (simp only [sumVal, oct.sumF, oct.F, oct.ws]; omega)) (by first | omega | (simp only [sumVal, oct.sumF, oct.F, oct.ws]; omega)) (by first | omega | (simp only [sumVal, oct.sumF, oct.F, oct.ws]; omega)))
def IGMPDecodesRow3e23 : Ent := .bin .shl (.chan (some 21)) (.int .u64 8) (.chan (some 22))
theorem IGMPDecodesRow3e23_ok (w : World) (R : Nat → Int) (hR : ∀ j, 0 ≤ R j ∧ R j ≤ 255) (A0 : Addr) (n0 cp0 : Nat) (w0 : RowIn R 1048576 w A0 n0 cp0) (hn : n0 ≤ 70000) (hm : 1 ≤ n0) (hk : IGMPDecodesRow3K R n0) : @EntOK (IGMPDecodesRow3V R hR n0) Try.prog IGMPDecodesRow3e23 := by
  letI : Env := (IGMPDecodesRow3V R hR n0)
  obtain ⟨k0, k1, k2, _⟩ := hk; have rb1048576 := hR 1048576; have rb1048580 := hR 1048580; have rb1048581 := hR 1048581; have rb1048582 := hR 1048582; have sb0 := sumVal_bd true (rowL R 1048576 n0) (rowL_bd hR _ _); exact entShlV (k := .u32) (l := .u64) (a := (((((R 1048580) * 256) + (R 1048581)) * 256) + (R 1048582))) (c := ((((((R 1048580) * 256) + (R 1048581)) * 256) + (R 1048582)) * 256)) (s := 8) rfl rfl rfl (by decide) (by show IntKind.u32.wrap ((((((R 1048580) * 256) + (R 1048581)) * 256) + (R 1048582)) * 2 ^ 8) = ((((((R 1048580) * 256) + (R 1048581)) * 256) + (R 1048582)) * 256); rw [show ((2 : Int) ^ 8) = 256 from by decide, IntWalk.u32_in _ (by first | omega | (simp only [sumVal, oct.sumF, oct.F, oct.ws]; omega))])
def IGMPDecodesRow3e24 : Ent := .conv .u32 (.chan (some 1048583)) (.chan (some 23))
theorem IGMPDecodesRow3e24_ok (w : World) (R : Nat → Int) (hR : ∀ j, 0 ≤ R j ∧ R j ≤ 255) (A0 : Addr) (n0 cp0 : Nat) (w0 : RowIn R 1048576 w A0 n0 cp0) (hn : n0 ≤ 70000) (hm : 1 ≤ n0) (hk : IGMPDecodesRow3K R n0) : @EntOK (IGMPDecodesRow3V R hR n0) Try.prog IGMPDecodesRow3e24 := by
  letI : Env := (IGMPDecodesRow3V R hR n0)
  obtain ⟨k0, k1, k2, _⟩ := hk; have rb1048576 := hR 1048576; have rb1048583 := hR 1048583; have sb0 := sumVal_bd true (rowL R 1048576 n0) (rowL_bd hR _ _); exact entConvV (k := .u32) (l := .u8) (a := (R 1048583)) (c := (R 1048583)) rfl rfl (by rw [IntWalk.u32_in _ (by first | omega | (simp only [sumVal, oct.sumF, oct.F, oct.ws]; omega))])
def IGMPDecodesRow3e25 : Ent := .bin .or (.chan (some 22)) (.chan (some 23)) (.chan (some 24))
theorem IGMPDecodesRow3e25_ok (w : World) (R : Nat → Int) (hR : ∀ j, 0 ≤ R j ∧ R j ≤ 255) (A0 : Addr) (n0 cp0 : Nat) (w0 : RowIn R 1048576 w A0 n0 cp0) (hn : n0 ≤ 70000) (hm : 1 ≤ n0) (hk : IGMPDecodesRow3K R n0) : @EntOK (IGMPDecodesRow3V R hR n0) Try.prog IGMPDecodesRow3e25 := by
  letI : Env := (IGMPDecodesRow3V R hR n0)
  obtain ⟨k0, k1, k2, _⟩ := hk; have rb1048576 := hR 1048576; have rb1048580 := hR 1048580; have rb1048581 := hR 1048581; have rb1048582 := hR 1048582; have rb1048583 := hR 1048583; have sb0 := sumVal_bd true (rowL R 1048576 n0) (rowL_bd hR _ _); exact entOrV (k := .u32) (a := ((((((R 1048580) * 256) + (R 1048581)) * 256) + (R 1048582)) * 256)) (b := (R 1048583)) (c := (((((((R 1048580) * 256) + (R 1048581)) * 256) + (R 1048582)) * 256) + (R 1048583))) rfl rfl rfl (by exact join_u32 (((((R 1048580) * 256) + (R 1048581)) * 256) + (R 1048582)) (R 1048583) 8 256 (by decide) (by first | omega | (simp only [sumVal, oct.sumF, oct.F, oct.ws]; omega)) (by first | omega | (simp only [sumVal, oct.sumF, oct.F, oct.ws]; omega)) (by first | omega | (simp only [sumVal, oct.sumF, oct.F, oct.ws]; omega)) (by first | omega | (simp only [sumVal, oct.sumF, oct.F, oct.ws]; omega)))
def IGMPDecodesRow3e26 : Ent := .conv .i64 (.chan (some 1048576)) (.chan (some 25))
theorem IGMPDecodesRow3e26_ok (w : World) (R : Nat → Int) (hR : ∀ j, 0 ≤ R j ∧ R j ≤ 255) (A0 : Addr) (n0 cp0 : Nat) (w0 : RowIn R 1048576 w A0 n0 cp0) (hn : n0 ≤ 70000) (hm : 1 ≤ n0) (hk : IGMPDecodesRow3K R n0) : @EntOK (IGMPDecodesRow3V R hR n0) Try.prog IGMPDecodesRow3e26 := by
  letI : Env := (IGMPDecodesRow3V R hR n0)
  obtain ⟨k0, k1, k2, _⟩ := hk; have rb1048576 := hR 1048576; have sb0 := sumVal_bd true (rowL R 1048576 n0) (rowL_bd hR _ _); exact entConvV (k := .i64) (l := .u8) (a := (R 1048576)) (c := (R 1048576)) rfl rfl (by rw [IntWalk.i64_in _ (by first | omega | (simp only [sumVal, oct.sumF, oct.F, oct.ws]; omega))])
def IGMPDecodesRow3e27 : Ent := .conv .i64 (.chan (some 1048577)) (.chan (some 26))
theorem IGMPDecodesRow3e27_ok (w : World) (R : Nat → Int) (hR : ∀ j, 0 ≤ R j ∧ R j ≤ 255) (A0 : Addr) (n0 cp0 : Nat) (w0 : RowIn R 1048576 w A0 n0 cp0) (hn : n0 ≤ 70000) (hm : 1 ≤ n0) (hk : IGMPDecodesRow3K R n0) : @EntOK (IGMPDecodesRow3V R hR n0) Try.prog IGMPDecodesRow3e27 := by
  letI : Env := (IGMPDecodesRow3V R hR n0)
  obtain ⟨k0, k1, k2, _⟩ := hk; have rb1048576 := hR 1048576; have rb1048577 := hR 1048577; have sb0 := sumVal_bd true (rowL R 1048576 n0) (rowL_bd hR _ _); exact entConvV (k := .i64) (l := .u8) (a := (R 1048577)) (c := (R 1048577)) rfl rfl (by rw [IntWalk.i64_in _ (by first | omega | (simp only [sumVal, oct.sumF, oct.F, oct.ws]; omega))])
def IGMPDecodesRow3e28 : Ent := .bin .shl (.chan (some 14)) (.int .u64 24) (.chan (some 27))
theorem IGMPDecodesRow3e28_ok (w : World) (R : Nat → Int) (hR : ∀ j, 0 ≤ R j ∧ R j ≤ 255) (A0 : Addr) (n0 cp0 : Nat) (w0 : RowIn R 1048576 w A0 n0 cp0) (hn : n0 ≤ 70000) (hm : 1 ≤ n0) (hk : IGMPDecodesRow3K R n0) : @EntOK (IGMPDecodesRow3V R hR n0) Try.prog IGMPDecodesRow3e28 := by
  letI : Env := (IGMPDecodesRow3V R hR n0)
  obtain ⟨k0, k1, k2, _⟩ := hk; have rb1048576 := hR 1048576; have rb1048580 := hR 1048580; have sb0 := sumVal_bd true (rowL R 1048576 n0) (rowL_bd hR _ _); exact entShlV (k := .u32) (l := .u64) (a := (R 1048580)) (c := ((R 1048580) * 16777216)) (s := 24) rfl rfl rfl (by decide) (by show IntKind.u32.wrap ((R 1048580) * 2 ^ 24) = ((R 1048580) * 16777216); rw [show ((2 : Int) ^ 24) = 16777216 from by decide, IntWalk.u32_in _ (by first | omega | (simp only [sumVal, oct.sumF, oct.F, oct.ws]; omega))])
def IGMPDecodesRow3e29 : Ent := .bin .shl (.chan (some 17)) (.int .u64 16) (.chan (some 28))
theorem IGMPDecodesRow3e29_ok (w : World) (R : Nat → Int) (hR : ∀ j, 0 ≤ R j ∧ R j ≤ 255) (A0 : Addr) (n0 cp0 : Nat) (w0 : RowIn R 1048576 w A0 n0 cp0) (hn : n0 ≤ 70000) (hm : 1 ≤ n0) (hk : IGMPDecodesRow3K R n0) : @EntOK (IGMPDecodesRow3V R hR n0) Try.prog IGMPDecodesRow3e29 := by
  letI : Env := (IGMPDecodesRow3V R hR n0)
  obtain ⟨k0, k1, k2, _⟩ := hk; have rb1048576 := hR 1048576; have rb1048581 := hR 1048581; have sb0 := sumVal_bd true (rowL R 1048576 n0) (rowL_bd hR _ _); exact entShlV (k := .u32) (l := .u64) (a := (R 1048581)) (c := ((R 1048581) * 65536)) (s := 16) rfl rfl rfl (by decide) (by show IntKind.u32.wrap ((R 1048581) * 2 ^ 16) = ((R 1048581) * 65536); rw [show ((2 : Int) ^ 16) = 65536 from by decide, IntWalk.u32_in _ (by first | omega | (simp only [sumVal, oct.sumF, oct.F, oct.ws]; omega))])
def IGMPDecodesRow3e30 : Ent := .bin .or (.chan (some 27)) (.chan (some 28)) (.chan (some 29))
theorem IGMPDecodesRow3e30_ok (w : World) (R : Nat → Int) (hR : ∀ j, 0 ≤ R j ∧ R j ≤ 255) (A0 : Addr) (n0 cp0 : Nat) (w0 : RowIn R 1048576 w A0 n0 cp0) (hn : n0 ≤ 70000) (hm : 1 ≤ n0) (hk : IGMPDecodesRow3K R n0) : @EntOK (IGMPDecodesRow3V R hR n0) Try.prog IGMPDecodesRow3e30 := by
  letI : Env := (IGMPDecodesRow3V R hR n0)
  obtain ⟨k0, k1, k2, _⟩ := hk; have rb1048576 := hR 1048576; have rb1048580 := hR 1048580; have rb1048581 := hR 1048581; have sb0 := sumVal_bd true (rowL R 1048576 n0) (rowL_bd hR _ _); exact entOrV (k := .u32) (a := ((R 1048580) * 16777216)) (b := ((R 1048581) * 65536)) (c := (((R 1048580) * 16777216) + ((R 1048581) * 65536))) rfl rfl rfl (by exact join_u32 (R 1048580) ((R 1048581) * 65536) 24 16777216 (by decide) (by first | omega | (simp only [sumVal, oct.sumF, oct.F, oct.ws]; omega)) (by first | omega | (simp only [sumVal, oct.sumF, oct.F, oct.ws]; omega)) (by first | omega | (simp only [sumVal, oct.sumF, oct.F, oct.ws]; omega)) (by first | omega | (simp only [sumVal, oct.sumF, oct.F, oct.ws]; omega)))
def IGMPDecodesRow3e31 : Ent := .bin .shl (.chan (some 20)) (.int .u64 8) (.chan (some 30))
theorem IGMPDecodesRow3e31_ok (w : World) (R : Nat → Int) (hR : ∀ j, 0 ≤ R j ∧ R j ≤ 255) (A0 : Addr) (n0 cp0 : Nat) (w0 : RowIn R 1048576 w A0 n0 cp0) (hn : n0 ≤ 70000) (hm : 1 ≤ n0) (hk : IGMPDecodesRow3K R n0) : @EntOK (IGMPDecodesRow3V R hR n0) Try.prog IGMPDecodesRow3e31 := by
  letI : Env := (IGMPDecodesRow3V R hR n0)
  obtain ⟨k0, k1, k2, _⟩ := hk; have rb1048576 := hR 1048576; have rb1048582 := hR 1048582; have sb0 := sumVal_bd true (rowL R 1048576 n0) (rowL_bd hR _ _); exact entShlV (k := .u32) (l := .u64) (a := (R 1048582)) (c := ((R 1048582) * 256)) (s := 8) rfl rfl rfl (by decide) (by show IntKind.u32.wrap ((R 1048582) * 2 ^ 8) = ((R 1048582) * 256); rw [show ((2 : Int) ^ 8) = 256 from by decide, IntWalk.u32_in _ (by first | omega | (simp only [sumVal, oct.sumF, oct.F, oct.ws]; omega))])
def IGMPDecodesRow3e32 : Ent := .bin .or (.chan (some 29)) (.chan (some 30)) (.chan (some 31))
theorem IGMPDecodesRow3e32_ok (w : World) (R : Nat → Int) (hR : ∀ j, 0 ≤ R j ∧ R j ≤ 255) (A0 : Addr) (n0 cp0 : Nat) (w0 : RowIn R 1048576 w A0 n0 cp0) (hn : n0 ≤ 70000) (hm : 1 ≤ n0) (hk : IGMPDecodesRow3K R n0) : @EntOK (IGMPDecodesRow3V R hR n0) Try.prog IGMPDecodesRow3e32 := by
  letI : Env := (IGMPDecodesRow3V R hR n0)
  obtain ⟨k0, k1, k2, _⟩ := hk; have rb1048576 := hR 1048576; have rb1048580 := hR 1048580; have rb1048581 := hR 1048581; have rb1048582 := hR 1048582; have sb0 := sumVal_bd true (rowL R 1048576 n0) (rowL_bd hR _ _); exact entOrV (k := .u32) (a := (((R 1048580) * 16777216) + ((R 1048581) * 65536))) (b := ((R 1048582) * 256)) (c := ((((R 1048580) * 16777216) + ((R 1048581) * 65536)) + ((R 1048582) * 256))) rfl rfl rfl (by have h := join_u32 ((R 1048580) * 256 + (R 1048581)) ((R 1048582) * 256) 16 65536 (by decide) (by first | omega | (simp only [sumVal, oct.sumF, oct.F, oct.ws]; omega)) (by first | omega | (simp only [sumVal, oct.sumF, oct.F, oct.ws]; omega)) (by first | omega | (simp only [sumVal, oct.sumF, oct.F, oct.ws]; omega)) (by first | omega | (simp only [sumVal, oct.sumF, oct.F, oct.ws]; omega)); rw [show ((((R 1048580) * 16777216) + ((R 1048581) * 65536)) : Int) = ((R 1048580) * 256 + (R 1048581)) * (65536 : Nat) from by omega]; rw [h])
def IGMPDecodesRow3e33 : Ent := .bin .or (.chan (some 31)) (.chan (some 23)) (.chan (some 32))
theorem IGMPDecodesRow3e33_ok (w : World) (R : Nat → Int) (hR : ∀ j, 0 ≤ R j ∧ R j ≤ 255) (A0 : Addr) (n0 cp0 : Nat) (w0 : RowIn R 1048576 w A0 n0 cp0) (hn : n0 ≤ 70000) (hm : 1 ≤ n0) (hk : IGMPDecodesRow3K R n0) : @EntOK (IGMPDecodesRow3V R hR n0) Try.prog IGMPDecodesRow3e33 := by
  letI : Env := (IGMPDecodesRow3V R hR n0)
  obtain ⟨k0, k1, k2, _⟩ := hk; have rb1048576 := hR 1048576; have rb1048580 := hR 1048580; have rb1048581 := hR 1048581; have rb1048582 := hR 1048582; have rb1048583 := hR 1048583; have sb0 := sumVal_bd true (rowL R 1048576 n0) (rowL_bd hR _ _); exact entOrV (k := .u32) (a := ((((R 1048580) * 16777216) + ((R 1048581) * 65536)) + ((R 1048582) * 256))) (b := (R 1048583)) (c := (((((R 1048580) * 16777216) + ((R 1048581) * 65536)) + ((R 1048582) * 256)) + (R 1048583))) rfl rfl rfl (by have h := join_u32 (((R 1048580) * 256 + (R 1048581)) * 256 + (R 1048582)) (R 1048583) 8 256 (by decide) (by first | omega | (simp only [sumVal, oct.sumF, oct.F, oct.ws]; omega)) (by first | omega | (simp only [sumVal, oct.sumF, oct.F, oct.ws]; omega)) (by first | omega | (simp only [sumVal, oct.sumF, oct.F, oct.ws]; omega)) (by first | omega | (simp only [sumVal, oct.sumF, oct.F, oct.ws]; omega)); rw [show (((((R 1048580) * 16777216) + ((R 1048581) * 65536)) + ((R 1048582) * 256)) : Int) = (((R 1048580) * 256 + (R 1048581)) * 256 + (R 1048582)) * (256 : Nat) from by omega]; rw [h])
def IGMPDecodesRow3e34 : Ent := .eqs false 25 [.chan (some 4), .chan (some 7), .chan (some 24)] [.chan (some 25), .chan (some 26), .chan (some 32)] true
theorem IGMPDecodesRow3e34_ok (w : World) (R : Nat → Int) (hR : ∀ j, 0 ≤ R j ∧ R j ≤ 255) (A0 : Addr) (n0 cp0 : Nat) (w0 : RowIn R 1048576 w A0 n0 cp0) (hn : n0 ≤ 70000) (hm : 1 ≤ n0) (hk : IGMPDecodesRow3K R n0) : @EntOK (IGMPDecodesRow3V R hR n0) Try.prog IGMPDecodesRow3e34 := by
  letI : Env := (IGMPDecodesRow3V R hR n0)
  obtain ⟨k0, k1, k2, _⟩ := hk; have rb1048576 := hR 1048576; have rb1048580 := hR 1048580; have rb1048581 := hR 1048581; have rb1048582 := hR 1048582; have rb1048583 := hR 1048583; have sb0 := sumVal_bd true (rowL R 1048576 n0) (rowL_bd hR _ _); exact ⟨by intro v hv; simp only [List.mem_cons, List.not_mem_nil, or_false] at hv; rcases hv with rfl | rfl | rfl <;> first | exact .inl ⟨_, _, rfl⟩ | exact .inr ⟨_, rfl⟩, by intro v hv; simp only [List.mem_cons, List.not_mem_nil, or_false] at hv; rcases hv with rfl | rfl | rfl <;> first | exact .inl ⟨_, _, rfl⟩ | exact .inr ⟨_, rfl⟩, by intro a1 a2 w; have e0 : (((((((R 1048580) * 256) + (R 1048581)) * 256) + (R 1048582)) * 256) + (R 1048583)) = (((((R 1048580) * 16777216) + ((R 1048581) * 65536)) + ((R 1048582) * 256)) + (R 1048583)) := (by first | omega | (simp only [sumVal, oct.sumF, oct.F, oct.ws]; omega)); exact eqIGMP _ _ _ _ _ _ true (by first | (simp only [beq_self_eq_true, Bool.and_true, Bool.true_and, beq_iff_eq]; omega) | (simp; omega) | simp) a1 a2 w⟩
set_option maxHeartbeats 4000000 in
theorem IGMPDecodesRow3 (w : World) (R : Nat → Int) (hR : ∀ j, 0 ≤ R j ∧ R j ≤ 255) (A0 : Addr) (n0 cp0 : Nat) (w0 : RowIn R 1048576 w A0 n0 cp0) (hn : n0 ≤ 70000) (hm : 1 ≤ n0) (k0 : ¬ ((n0 : Int) > 2000)) (k1 : ¬ ((n0 : Int) < 8)) (k2 : (sumVal true (rowL R 1048576 n0)) = 0) : Calls Try.prog 4 #[.slice (some A0) n0 cp0] w (fun e w' => e = .returned (.bool true) ∧ Only [] w w') := by
  letI : Env := (IGMPDecodesRow3V R hR n0)
  have hk : IGMPDecodesRow3K R n0 := ⟨k0, k1, k2, trivial⟩
  have hents : ∀ e ∈ ([IGMPDecodesRow3e0, IGMPDecodesRow3e1, IGMPDecodesRow3e2, IGMPDecodesRow3e3, IGMPDecodesRow3e4, IGMPDecodesRow3e5, IGMPDecodesRow3e6, IGMPDecodesRow3e7, IGMPDecodesRow3e8, IGMPDecodesRow3e9, IGMPDecodesRow3e10, IGMPDecodesRow3e11, IGMPDecodesRow3e12, IGMPDecodesRow3e13, IGMPDecodesRow3e14, IGMPDecodesRow3e15, IGMPDecodesRow3e16, IGMPDecodesRow3e17, IGMPDecodesRow3e18, IGMPDecodesRow3e19, IGMPDecodesRow3e20, IGMPDecodesRow3e21, IGMPDecodesRow3e22, IGMPDecodesRow3e23, IGMPDecodesRow3e24, IGMPDecodesRow3e25, IGMPDecodesRow3e26, IGMPDecodesRow3e27, IGMPDecodesRow3e28, IGMPDecodesRow3e29, IGMPDecodesRow3e30, IGMPDecodesRow3e31, IGMPDecodesRow3e32, IGMPDecodesRow3e33, IGMPDecodesRow3e34] : List Ent), EntOK Try.prog e := (allECons (IGMPDecodesRow3e0_ok w R hR A0 n0 cp0 w0 hn hm hk) (allECons (IGMPDecodesRow3e1_ok w R hR A0 n0 cp0 w0 hn hm hk) (allECons (IGMPDecodesRow3e2_ok w R hR A0 n0 cp0 w0 hn hm hk) (allECons (IGMPDecodesRow3e3_ok w R hR A0 n0 cp0 w0 hn hm hk) (allECons (IGMPDecodesRow3e4_ok w R hR A0 n0 cp0 w0 hn hm hk) (allECons (IGMPDecodesRow3e5_ok w R hR A0 n0 cp0 w0 hn hm hk) (allECons (IGMPDecodesRow3e6_ok w R hR A0 n0 cp0 w0 hn hm hk) (allECons (IGMPDecodesRow3e7_ok w R hR A0 n0 cp0 w0 hn hm hk) (allECons (IGMPDecodesRow3e8_ok w R hR A0 n0 cp0 w0 hn hm hk) (allECons (IGMPDecodesRow3e9_ok w R hR A0 n0 cp0 w0 hn hm hk) (allECons (IGMPDecodesRow3e10_ok w R hR A0 n0 cp0 w0 hn hm hk) (allECons (IGMPDecodesRow3e11_ok w R hR A0 n0 cp0 w0 hn hm hk) (allECons (IGMPDecodesRow3e12_ok w R hR A0 n0 cp0 w0 hn hm hk) (allECons (IGMPDecodesRow3e13_ok w R hR A0 n0 cp0 w0 hn hm hk) (allECons (IGMPDecodesRow3e14_ok w R hR A0 n0 cp0 w0 hn hm hk) (allECons (IGMPDecodesRow3e15_ok w R hR A0 n0 cp0 w0 hn hm hk) (allECons (IGMPDecodesRow3e16_ok w R hR A0 n0 cp0 w0 hn hm hk) (allECons (IGMPDecodesRow3e17_ok w R hR A0 n0 cp0 w0 hn hm hk) (allECons (IGMPDecodesRow3e18_ok w R hR A0 n0 cp0 w0 hn hm hk) (allECons (IGMPDecodesRow3e19_ok w R hR A0 n0 cp0 w0 hn hm hk) (allECons (IGMPDecodesRow3e20_ok w R hR A0 n0 cp0 w0 hn hm hk) (allECons (IGMPDecodesRow3e21_ok w R hR A0 n0 cp0 w0 hn hm hk) (allECons (IGMPDecodesRow3e22_ok w R hR A0 n0 cp0 w0 hn hm hk) (allECons (IGMPDecodesRow3e23_ok w R hR A0 n0 cp0 w0 hn hm hk) (allECons (IGMPDecodesRow3e24_ok w R hR A0 n0 cp0 w0 hn hm hk) (allECons (IGMPDecodesRow3e25_ok w R hR A0 n0 cp0 w0 hn hm hk) (allECons (IGMPDecodesRow3e26_ok w R hR A0 n0 cp0 w0 hn hm hk) (allECons (IGMPDecodesRow3e27_ok w R hR A0 n0 cp0 w0 hn hm hk) (allECons (IGMPDecodesRow3e28_ok w R hR A0 n0 cp0 w0 hn hm hk) (allECons (IGMPDecodesRow3e29_ok w R hR A0 n0 cp0 w0 hn hm hk) (allECons (IGMPDecodesRow3e30_ok w R hR A0 n0 cp0 w0 hn hm hk) (allECons (IGMPDecodesRow3e31_ok w R hR A0 n0 cp0 w0 hn hm hk) (allECons (IGMPDecodesRow3e32_ok w R hR A0 n0 cp0 w0 hn hm hk) (allECons (IGMPDecodesRow3e33_ok w R hR A0 n0 cp0 w0 hn hm hk) (allECons (IGMPDecodesRow3e34_ok w R hR A0 n0 cp0 w0 hn hm hk) allENil)))))))))))))))))))))))))))))))))))
  have hsents : ∀ e ∈ ([⟨true, .sym 1048576 0 0 8, .chan (some 1)⟩] : List SEnt), SEntOK e := by
    intro e he
    simp only [List.mem_cons, List.not_mem_nil, or_false] at he
    subst he
    · exact sEnt_sym (n := n0) (j := 1) (by decide) rfl rfl
  have hsp : SpOK Try.prog (spTwo (spSumS [(14, true), (33, false), (28, true), (49, false)] [⟨true, .sym 1048576 0 0 8, .chan (some 1)⟩]) (spTwo (spSum [(14, true), (33, false), (28, true), (49, false)] []) (spTwo (spHelp ⟨11, 15, 17, 5⟩ [0]) (spKnown 12)))) := (spTwo_ok (spSumS_ok sumsOK hsents) (spTwo_ok (spSum_ok sumsOK (fun e h => by cases h)) (spTwo_ok (spHelp_ok helpC (by
    intro q hq
    simp only [List.mem_cons, List.not_mem_nil, or_false] at hq
    subst hq
    rw [lenOf_eq (n := n0) rfl]; omega)) (spKnown_ok knownBody known))))
  refine lawR (tab := tabG Try.prog [IGMPDecodesRow3e0, IGMPDecodesRow3e1, IGMPDecodesRow3e2, IGMPDecodesRow3e3, IGMPDecodesRow3e4, IGMPDecodesRow3e5, IGMPDecodesRow3e6, IGMPDecodesRow3e7, IGMPDecodesRow3e8, IGMPDecodesRow3e9, IGMPDecodesRow3e10, IGMPDecodesRow3e11, IGMPDecodesRow3e12, IGMPDecodesRow3e13, IGMPDecodesRow3e14, IGMPDecodesRow3e15, IGMPDecodesRow3e16, IGMPDecodesRow3e17, IGMPDecodesRow3e18, IGMPDecodesRow3e19, IGMPDecodesRow3e20, IGMPDecodesRow3e21, IGMPDecodesRow3e22, IGMPDecodesRow3e23, IGMPDecodesRow3e24, IGMPDecodesRow3e25, IGMPDecodesRow3e26, IGMPDecodesRow3e27, IGMPDecodesRow3e28, IGMPDecodesRow3e29, IGMPDecodesRow3e30, IGMPDecodesRow3e31, IGMPDecodesRow3e32, IGMPDecodesRow3e33, IGMPDecodesRow3e34]) (sp := (spTwo (spSumS [(14, true), (33, false), (28, true), (49, false)] [⟨true, .sym 1048576 0 0 8, .chan (some 1)⟩]) (spTwo (spSum [(14, true), (33, false), (28, true), (49, false)] []) (spTwo (spHelp ⟨11, 15, 17, 5⟩ [0]) (spKnown 12))))) hsp (tabG_ok hents) (f := 300) (args := [.slice (some ⟨0, 0, some 1⟩) 8 0]) (args' := [.slice (some A0) n0 cp0]) (c0 := 1) (h0 := mem1 (rowAo 1048576 0 8 5)) (β0 := mp1 (rowIm A0 n0)) (w := w) (by kernel_rfl) (sim1 rfl w0.lt (rowIn_ob w0 (by decide) rfl (by omega))) (fun i hi => ?_) ?_
  · match i, hi with
    | i + 1, _ => rfl
  · exact (PW.cons (rowIn_vr (m := 8) w0 rfl (by omega) (by omega) rfl) (PW.nil _))
theorem IGMPDecodesRow (w : World) (R : Nat → Int) (hR : ∀ j, 0 ≤ R j ∧ R j ≤ 255) (A0 : Addr) (n0 cp0 : Nat) (w0 : RowIn R 1048576 w A0 n0 cp0) (hn : n0 ≤ 70000) (hm : 1 ≤ n0) : Calls Try.prog 4 #[.slice (some A0) n0 cp0] w (fun e w' => e = .returned (.bool true) ∧ Only [] w w') := by
  have rb1048576 := hR 1048576
  by_cases h1 : (n0 : Int) > 2000
  ·
    exact IGMPDecodesRow0 w R hR A0 n0 cp0 w0 hn hm h1
  ·
    by_cases h2 : (n0 : Int) < 8
    ·
      exact IGMPDecodesRow1 w R hR A0 n0 cp0 w0 hn hm h1 h2
    ·
      by_cases h3 : (sumVal true (rowL R 1048576 n0)) = 0
      ·
        exact IGMPDecodesRow3 w R hR A0 n0 cp0 w0 hn hm h1 h2 h3
      ·
        exact IGMPDecodesRow2 w R hR A0 n0 cp0 w0 hn hm h1 h2 h3
abbrev IGMPDecodesNil0V (R : Nat → Int) (hR : ∀ j, 0 ≤ R j ∧ R j ≤ 255)  : Env := envR [] R hR
def IGMPDecodesNil0K (R : Nat → Int)  : Prop := True
set_option maxHeartbeats 4000000 in
theorem IGMPDecodesNil0 (w : World) (R : Nat → Int) (hR : ∀ j, 0 ≤ R j ∧ R j ≤ 255)   : Calls Try.prog 4 #[.slice none 0 0] w (fun e w' => e = .returned (.bool true) ∧ Only [] w w') := by
  letI : Env := (IGMPDecodesNil0V R hR )
  have hk : IGMPDecodesNil0K R  := trivial
  have hents : ∀ e ∈ ([] : List Ent), EntOK Try.prog e := allENil
  have hsp : SpOK Try.prog (spTwo (spSum [(14, true), (33, false), (28, true), (49, false)] []) (spKnown 12)) := (spTwo_ok (spSum_ok sumsOK (fun e h => by cases h)) (spKnown_ok knownBody known))
  refine lawR (tab := tabG Try.prog []) (sp := (spTwo (spSum [(14, true), (33, false), (28, true), (49, false)] []) (spKnown 12))) hsp (tabG_ok hents) (f := 300) (args := [.slice none 0 0]) (args' := [.slice none 0 0]) (c0 := 0) (h0 := .lf) (β0 := fun _ => none) (w := w) (by kernel_rfl) (Sim.nothing Try.prog w.heap.size w) (fun i hi => ?_) ?_
  · rfl
  · exact (PW.cons (VR.of_flat 6 _ rfl) (PW.nil _))
theorem IGMPDecodesNil (w : World) (R : Nat → Int) (hR : ∀ j, 0 ≤ R j ∧ R j ≤ 255)  : Calls Try.prog 4 #[.slice none 0 0] w (fun e w' => e = .returned (.bool true) ∧ Only [] w w') := by
  exact IGMPDecodesNil0 w R hR  
abbrev IGMPDecodesEmp0V (R : Nat → Int) (hR : ∀ j, 0 ≤ R j ∧ R j ≤ 255)  : Env := envR [] R hR
def IGMPDecodesEmp0K (R : Nat → Int)  : Prop := True
set_option maxHeartbeats 4000000 in
theorem IGMPDecodesEmp0 (w : World) (R : Nat → Int) (hR : ∀ j, 0 ≤ R j ∧ R j ≤ 255) (A0 : Addr) (cp0 : Nat) (hs : A0.spot = none ∨ cp0 = 0)  : Calls Try.prog 4 #[.slice (some A0) 0 cp0] w (fun e w' => e = .returned (.bool true) ∧ Only [] w w') := by
  letI : Env := (IGMPDecodesEmp0V R hR )
  have hk : IGMPDecodesEmp0K R  := trivial
  have hents : ∀ e ∈ ([] : List Ent), EntOK Try.prog e := allENil
  have hsp : SpOK Try.prog (spTwo (spSum [(14, true), (33, false), (28, true), (49, false)] []) (spKnown 12)) := (spTwo_ok (spSum_ok sumsOK (fun e h => by cases h)) (spKnown_ok knownBody known))
  refine lawR (tab := tabG Try.prog []) (sp := (spTwo (spSum [(14, true), (33, false), (28, true), (49, false)] []) (spKnown 12))) hsp (tabG_ok hents) (f := 300) (args := [.slice (some ⟨0, 0, some 0⟩) 0 0]) (args' := [.slice (some A0) 0 cp0]) (c0 := 1) (h0 := .lf) (β0 := mp1 ⟨A0.block, A0.off, 0, 0, 1⟩) (w := w) (by kernel_rfl) (⟨fun i o hi => (by rw [Tr.get_lf] at hi; cases hi), fun i j o o' I J hi => (by rw [Tr.get_lf] at hi; cases hi)⟩) (fun i hi => ?_) ?_
  · match i, hi with
    | i + 1, _ => rfl
  · exact (PW.cons (rowNone_vr rfl hs) (PW.nil _))
theorem IGMPDecodesEmp (w : World) (R : Nat → Int) (hR : ∀ j, 0 ≤ R j ∧ R j ≤ 255) (A0 : Addr) (cp0 : Nat) (hs : A0.spot = none ∨ cp0 = 0) : Calls Try.prog 4 #[.slice (some A0) 0 cp0] w (fun e w' => e = .returned (.bool true) ∧ Only [] w w') := by
  exact IGMPDecodesEmp0 w R hR A0 cp0 hs 
abbrev IGMPDecodesBig0V (R : Nat → Int) (hR : ∀ j, 0 ≤ R j ∧ R j ≤ 255) (A0 : Option Addr) (n0 cp0 : Nat) : Env := envR [.slice A0 n0 cp0, .int .i64 (n0 : Int)] R hR
def IGMPDecodesBig0K (R : Nat → Int) (A0 : Option Addr) (n0 cp0 : Nat) : Prop := ((n0 : Int) > 2000) ∧ True
def IGMPDecodesBig0e0 : Ent := .len false (.chan (some 1000)) (.chan (some 1))
theorem IGMPDecodesBig0e0_ok (w : World) (R : Nat → Int) (hR : ∀ j, 0 ≤ R j ∧ R j ≤ 255) (A0 : Option Addr) (n0 cp0 : Nat) (hn : 2000 < n0) (hk : IGMPDecodesBig0K R A0 n0 cp0) : @EntOK (IGMPDecodesBig0V R hR A0 n0 cp0) Try.prog IGMPDecodesBig0e0 := by
  letI : Env := (IGMPDecodesBig0V R hR A0 n0 cp0)
  obtain ⟨k0, _⟩ := hk; exact entLen (i := 1000) (j := 1) rfl rfl
def IGMPDecodesBig0e1 : Ent := .bin .gtr (.chan (some 1)) (.int .i64 2000) (.bool true)
theorem IGMPDecodesBig0e1_ok (w : World) (R : Nat → Int) (hR : ∀ j, 0 ≤ R j ∧ R j ≤ 255) (A0 : Option Addr) (n0 cp0 : Nat) (hn : 2000 < n0) (hk : IGMPDecodesBig0K R A0 n0 cp0) : @EntOK (IGMPDecodesBig0V R hR A0 n0 cp0) Try.prog IGMPDecodesBig0e1 := by
  letI : Env := (IGMPDecodesBig0V R hR A0 n0 cp0)
  obtain ⟨k0, _⟩ := hk; exact entCmp (k := .i64) (a := (n0 : Int)) (b := 2000) rfl rfl (by show some (decide (((n0 : Int) : Int) > 2000)) = some true; rw [decide_eq_true (by first | omega | (simp only [sumVal, oct.sumF, oct.F, oct.ws]; omega))])
set_option maxHeartbeats 4000000 in
theorem IGMPDecodesBig0 (w : World) (R : Nat → Int) (hR : ∀ j, 0 ≤ R j ∧ R j ≤ 255) (A0 : Option Addr) (n0 cp0 : Nat) (hn : 2000 < n0) (k0 : (n0 : Int) > 2000) : Calls Try.prog 4 #[.slice A0 n0 cp0] w (fun e w' => e = .returned (.bool true) ∧ Only [] w w') := by
  letI : Env := (IGMPDecodesBig0V R hR A0 n0 cp0)
  have hk : IGMPDecodesBig0K R A0 n0 cp0 := ⟨k0, trivial⟩
  have hents : ∀ e ∈ ([IGMPDecodesBig0e0, IGMPDecodesBig0e1] : List Ent), EntOK Try.prog e := (allECons (IGMPDecodesBig0e0_ok w R hR A0 n0 cp0 hn hk) (allECons (IGMPDecodesBig0e1_ok w R hR A0 n0 cp0 hn hk) allENil))
  have hsp : SpOK Try.prog (spTwo (spSum [(14, true), (33, false), (28, true), (49, false)] []) (spKnown 12)) := (spTwo_ok (spSum_ok sumsOK (fun e h => by cases h)) (spKnown_ok knownBody known))
  refine lawR (tab := tabG Try.prog [IGMPDecodesBig0e0, IGMPDecodesBig0e1]) (sp := (spTwo (spSum [(14, true), (33, false), (28, true), (49, false)] []) (spKnown 12))) hsp (tabG_ok hents) (f := 300) (args := [.chan (some 1000)]) (args' := [.slice A0 n0 cp0]) (c0 := 0) (h0 := .lf) (β0 := fun _ => none) (w := w) (by kernel_rfl) (Sim.nothing Try.prog w.heap.size w) (fun i hi => ?_) ?_
  · rfl
  · exact (PW.cons (.opq 1000 rfl (fun b h => by cases h)) (PW.nil _))
theorem IGMPDecodesBig (w : World) (R : Nat → Int) (hR : ∀ j, 0 ≤ R j ∧ R j ≤ 255) (A0 : Option Addr) (n0 cp0 : Nat) (hn : 2000 < n0) : Calls Try.prog 4 #[.slice A0 n0 cp0] w (fun e w' => e = .returned (.bool true) ∧ Only [] w w') := by
  by_cases h1 : (n0 : Int) > 2000
  ·
    exact IGMPDecodesBig0 w R hR A0 n0 cp0 hn h1
  ·
    exfalso; omega
theorem IGMPDecodesAll (w : World) (a0 : Option Addr) (len0 cap0 : Nat) (z0 : List Int) (h0 : IsRow .u8 w a0 len0 cap0 z0)  : Calls Try.prog 4 #[.slice a0 len0 cap0] w (fun e w' => e = .returned (.bool true) ∧ Only [] w w') := by
  by_cases hb : 2000 < len0
  · exact IGMPDecodesBig w (fun _ => 0) (fun _ => ⟨by decide, by decide⟩) a0 len0 cap0 hb 
  cases a0 with
  | none =>
    rcases h0 with ⟨_, rfl, rfl, _⟩ | ⟨x, hx, _⟩
    · exact IGMPDecodesNil w (fun _ => 0) (fun _ => ⟨by decide, by decide⟩) 
    · cases hx
  | some A =>
    by_cases hz : len0 = 0
    · subst hz
      exact IGMPDecodesEmp w (fun _ => 0) (fun _ => ⟨by decide, by decide⟩) A cap0 (isRow_spot h0) 
    · exact IGMPDecodesRow w (rowR 1048576 z0) (rowR_bd (isRow_wf h0)) A len0 cap0 (rowIn_of h0 (by omega) (fun j hj => by unfold rowR; rw [Nat.add_sub_cancel_left])) (by omega) (by omega) 
end Go.Proofs.Ytodcjokafjdhdaa.ev
