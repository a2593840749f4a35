/-
  EtherDecodes, by a run of each path over rows of bytes that are not looked into. Conditions: none.
-/
import Derived.Test.YtiihhngddmboaaaEvRl
import Derived.Test.YtiihhngddmboaaaEvP4
import Derived.Test.YtiihhngddmboaaaHlp4
import Derived.Test.YtiihhngddmboaaaSpo4
import Derived.Test.YtiihhngddmboaaaEvV
import Derived.Test.YtiihhngddmboaaaEvBd
import Derived.KernelRfl
import Derived.DeepKeys
namespace Go.Proofs.Ytiihhngddmboaaa.ev
set_option maxRecDepth 1000000
set_option linter.unusedVariables false
set_option linter.unusedSimpArgs false
open Go.ChangeShapes Go.WideShapes Go.ChangeAt Go.RowKit Go.IntWalk Go.Lib
theorem ac [Env] {P : Program} {e : Ent} {l : List Ent} (h : EntOK P e) (k : ∀ x ∈ l, EntOK P x) : ∀ x ∈ e :: l, EntOK P x := allECons h k
theorem helpC : HelpC Try.prog ⟨12, 9, 13, 5⟩ :=
  ⟨hasBody_of (by kernel_rfl), hasBody_of (by kernel_rfl), hasBody_of (by kernel_rfl), fun w A B n m c d x y hx hy hn hm => hlp.same w A B n m c d x y hx hy hn hm, fun w A n c l hl hc hn => hlp.roomy w A n c l hl hc hn, fun w A B n cap d l hx hc hy hn => hlp.stands w A B n cap d l hx hc hy hn⟩
theorem eqMac (d : Nat) (a0 a1 a2 a3 a4 a5 : Int) (w : World) : (Op.equalIn (d + 2) 23 (.agg #[.int .u8 a0, .int .u8 a1, .int .u8 a2, .int .u8 a3, .int .u8 a4, .int .u8 a5]) (.agg #[.int .u8 a0, .int .u8 a1, .int .u8 a2, .int .u8 a3, .int .u8 a4, .int .u8 a5])).run Try.prog w = .ok true w := by
  have hu : Try.prog.underlying 23 = some (.array 6 5) := Try.underlying23
  rw [run_equalIn_array w (d + 1) _ _ hu (i := (Try.prog.info? 5).get!) (by kernel_rfl)]
  have hc : Try.prog.cellsOf 5 = 1 := by kernel_rfl
  have hp : ∀ (xs : Array Value) (j : Nat) (v : Value), xs[j]? = some v → (part 5 xs j).run Try.prog w = .ok v w := fun xs j v hv => by
    simp [part, Sem.run_bind, run_isAgg Try.underlying5, TypeDesc.isRow, hv]
  have he : ∀ (n : Int), (Op.equalIn (d + 1) 5 (.int .u8 n) (.int .u8 n)).run Try.prog w = .ok true w := fun n => by
    simp [Op.equalIn, Sem.run_bind, run_underlying Try.underlying5]
  rw [hc]
  simp only [show List.range 6 = [0, 1, 2, 3, 4, 5] from rfl, Op.eqItems, Nat.mul_one, Nat.zero_mul]
  have p0 := hp #[.int .u8 a0, .int .u8 a1, .int .u8 a2, .int .u8 a3, .int .u8 a4, .int .u8 a5] 0 (.int .u8 a0) rfl
  have p1 := hp #[.int .u8 a0, .int .u8 a1, .int .u8 a2, .int .u8 a3, .int .u8 a4, .int .u8 a5] 1 (.int .u8 a1) rfl
  have p2 := hp #[.int .u8 a0, .int .u8 a1, .int .u8 a2, .int .u8 a3, .int .u8 a4, .int .u8 a5] 2 (.int .u8 a2) rfl
  have p3 := hp #[.int .u8 a0, .int .u8 a1, .int .u8 a2, .int .u8 a3, .int .u8 a4, .int .u8 a5] 3 (.int .u8 a3) rfl
  have p4 := hp #[.int .u8 a0, .int .u8 a1, .int .u8 a2, .int .u8 a3, .int .u8 a4, .int .u8 a5] 4 (.int .u8 a4) rfl
  have p5 := hp #[.int .u8 a0, .int .u8 a1, .int .u8 a2, .int .u8 a3, .int .u8 a4, .int .u8 a5] 5 (.int .u8 a5) rfl
  simp only [Sem.run_bind, p0, p1, p2, p3, p4, p5, Result.andThen_ok, he, if_true, Sem.run_pure, Bool.not_true, Bool.false_eq_true, if_false]
theorem eqMACn (a0 a1 a2 a3 a4 a5 b0 b1 b2 b3 b4 b5 : Int) (h0 : a0 = b0) (h1 : a1 = b1) (h2 : a2 = b2) (h3 : a3 = b3) (h4 : a4 = b4) (h5 : a5 = b5) (o1 o2 : Operand) (w : World) :
    (do eqGuard .eql 23 o1 o2 (.agg #[.int .u8 a0, .int .u8 a1, .int .u8 a2, .int .u8 a3, .int .u8 a4, .int .u8 a5]) (.agg #[.int .u8 b0, .int .u8 b1, .int .u8 b2, .int .u8 b3, .int .u8 b4, .int .u8 b5]); Go.binOp .eql 23 (.agg #[.int .u8 a0, .int .u8 a1, .int .u8 a2, .int .u8 a3, .int .u8 a4, .int .u8 a5]) (.agg #[.int .u8 b0, .int .u8 b1, .int .u8 b2, .int .u8 b3, .int .u8 b4, .int .u8 b5]) : Sem Value).run Try.prog w = .ok (.bool true) w := by
  subst h0 h1 h2 h3 h4 h5
  have m := eqMac 9998 a0 a1 a2 a3 a4 a5 w
  go_simp
abbrev edRowV (R : Nat → Int) (hR : ∀ j, 0 ≤ R j ∧ R j ≤ 255) (n0 : Nat) : Env := envR [.int .i64 (n0 : Int), .int .i64 (R 1048588), .int .i64 ((R 1048588) * 256), .int .i64 (R 1048589), .int .i64 (((R 1048588) * 256) + (R 1048589))] R hR
abbrev edRowB (n0 : Nat) : Prop := n0 ≤ 70000 ∧ 1 ≤ n0 ∧ n0 ≠ 14
def edRows0 : Ent := .bin .gtr (.chan (some 0)) (.int .i64 2000) (.bool true)
theorem edRows0_ok (R : Nat → Int) (hR : ∀ j, 0 ≤ R j ∧ R j ≤ 255) (n0 : Nat) (hb : edRowB n0) (hc : (n0 : Int) > 2000) : @EntOK (edRowV R hR n0) Try.prog edRows0 := by
  letI : Env := edRowV R hR n0
  exact entCmp (k := .i64) (a := (n0 : Int)) (b := 2000) rfl rfl (by show some (decide (((n0 : Int) : Int) > 2000)) = some true; rw [decide_eq_true (by first | omega | (simp only [sumVal, oct.sumF, oct.F, oct.ws]; omega))])
def edRows1 : Ent := .bin .gtr (.chan (some 0)) (.int .i64 2000) (.bool false)
theorem edRows1_ok (R : Nat → Int) (hR : ∀ j, 0 ≤ R j ∧ R j ≤ 255) (n0 : Nat) (hb : edRowB n0) (hc : ¬ ((n0 : Int) > 2000)) : @EntOK (edRowV R hR n0) Try.prog edRows1 := by
  letI : Env := edRowV R hR n0
  exact entCmp (k := .i64) (a := (n0 : Int)) (b := 2000) rfl rfl (by show some (decide (((n0 : Int) : Int) > 2000)) = some false; rw [decide_eq_false (by first | omega | (simp only [sumVal, oct.sumF, oct.F, oct.ws]; omega))])
def edRows2 : Ent := .bin .lss (.chan (some 0)) (.int .i64 14) (.bool false)
theorem edRows2_ok (R : Nat → Int) (hR : ∀ j, 0 ≤ R j ∧ R j ≤ 255) (n0 : Nat) (hb : edRowB n0) (hc : ¬ ((n0 : Int) < 14)) : @EntOK (edRowV R hR n0) Try.prog edRows2 := by
  letI : Env := edRowV R hR n0
  exact entCmp (k := .i64) (a := (n0 : Int)) (b := 14) rfl rfl (by show some (decide (((n0 : Int) : Int) < 14)) = some false; rw [decide_eq_false (by first | omega | (simp only [sumVal, oct.sumF, oct.F, oct.ws]; omega))])
def edRows3 : Ent := .bin .gtr (.chan (some 0)) (.int .i64 1514) (.bool true)
theorem edRows3_ok (R : Nat → Int) (hR : ∀ j, 0 ≤ R j ∧ R j ≤ 255) (n0 : Nat) (hb : edRowB n0) (hc : (n0 : Int) > 1514) : @EntOK (edRowV R hR n0) Try.prog edRows3 := by
  letI : Env := edRowV R hR n0
  exact entCmp (k := .i64) (a := (n0 : Int)) (b := 1514) rfl rfl (by show some (decide (((n0 : Int) : Int) > 1514)) = some true; rw [decide_eq_true (by first | omega | (simp only [sumVal, oct.sumF, oct.F, oct.ws]; omega))])
def edRows4 : Ent := .bin .gtr (.chan (some 0)) (.int .i64 1514) (.bool false)
theorem edRows4_ok (R : Nat → Int) (hR : ∀ j, 0 ≤ R j ∧ R j ≤ 255) (n0 : Nat) (hb : edRowB n0) (hc : ¬ ((n0 : Int) > 1514)) : @EntOK (edRowV R hR n0) Try.prog edRows4 := by
  letI : Env := edRowV R hR n0
  exact entCmp (k := .i64) (a := (n0 : Int)) (b := 1514) rfl rfl (by show some (decide (((n0 : Int) : Int) > 1514)) = some false; rw [decide_eq_false (by first | omega | (simp only [sumVal, oct.sumF, oct.F, oct.ws]; omega))])
def edRows5 : Ent := .conv .i64 (.chan (some 1048588)) (.chan (some 1))
theorem edRows5_ok (R : Nat → Int) (hR : ∀ j, 0 ≤ R j ∧ R j ≤ 255) (n0 : Nat) (hb : edRowB n0) : @EntOK (edRowV R hR n0) Try.prog edRows5 := by
  letI : Env := edRowV R hR n0
  have rb1048588 := hR 1048588; exact entConvV (k := .i64) (l := .u8) (a := (R 1048588)) (c := (R 1048588)) rfl rfl (by rw [IntWalk.i64_in _ (by first | omega | (simp only [sumVal, oct.sumF, oct.F, oct.ws]; omega))])
def edRows6 : Ent := .bin .shl (.chan (some 1)) (.int .u64 8) (.chan (some 2))
theorem edRows6_ok (R : Nat → Int) (hR : ∀ j, 0 ≤ R j ∧ R j ≤ 255) (n0 : Nat) (hb : edRowB n0) : @EntOK (edRowV R hR n0) Try.prog edRows6 := by
  letI : Env := edRowV R hR n0
  have rb1048588 := hR 1048588; exact entShlV (k := .i64) (l := .u64) (a := (R 1048588)) (c := ((R 1048588) * 256)) (s := 8) rfl rfl rfl (by decide) (by show IntKind.i64.wrap ((R 1048588) * 2 ^ 8) = ((R 1048588) * 256); rw [show ((2 : Int) ^ 8) = 256 from by decide, IntWalk.i64_in _ (by first | omega | (simp only [sumVal, oct.sumF, oct.F, oct.ws]; omega))])
def edRows7 : Ent := .conv .i64 (.chan (some 1048589)) (.chan (some 3))
theorem edRows7_ok (R : Nat → Int) (hR : ∀ j, 0 ≤ R j ∧ R j ≤ 255) (n0 : Nat) (hb : edRowB n0) : @EntOK (edRowV R hR n0) Try.prog edRows7 := by
  letI : Env := edRowV R hR n0
  have rb1048589 := hR 1048589; exact entConvV (k := .i64) (l := .u8) (a := (R 1048589)) (c := (R 1048589)) rfl rfl (by rw [IntWalk.i64_in _ (by first | omega | (simp only [sumVal, oct.sumF, oct.F, oct.ws]; omega))])
def edRows8 : Ent := .bin .or (.chan (some 2)) (.chan (some 3)) (.chan (some 4))
theorem edRows8_ok (R : Nat → Int) (hR : ∀ j, 0 ≤ R j ∧ R j ≤ 255) (n0 : Nat) (hb : edRowB n0) : @EntOK (edRowV R hR n0) Try.prog edRows8 := by
  letI : Env := edRowV R hR n0
  have rb1048588 := hR 1048588; have rb1048589 := hR 1048589; exact entOrV (k := .i64) (a := ((R 1048588) * 256)) (b := (R 1048589)) (c := (((R 1048588) * 256) + (R 1048589))) rfl rfl rfl (by exact join_i64 (R 1048588) (R 1048589) 8 256 (by decide) (by first | omega | (simp only [sumVal, oct.sumF, oct.F, oct.ws]; omega)) (by first | omega | (simp only [sumVal, oct.sumF, oct.F, oct.ws]; omega)) (by first | omega | (simp only [sumVal, oct.sumF, oct.F, oct.ws]; omega)) (by first | omega | (simp only [sumVal, oct.sumF, oct.F, oct.ws]; omega)))
def edRows9 : Ent := .bin .lss (.chan (some 4)) (.int .i64 1536) (.bool false)
theorem edRows9_ok (R : Nat → Int) (hR : ∀ j, 0 ≤ R j ∧ R j ≤ 255) (n0 : Nat) (hb : edRowB n0) (hc : ¬ ((((R 1048588) * 256) + (R 1048589)) < 1536)) : @EntOK (edRowV R hR n0) Try.prog edRows9 := by
  letI : Env := edRowV R hR n0
  have rb1048588 := hR 1048588; have rb1048589 := hR 1048589; exact entCmp (k := .i64) (a := (((R 1048588) * 256) + (R 1048589))) (b := 1536) rfl rfl (by show some (decide (((((R 1048588) * 256) + (R 1048589)) : Int) < 1536)) = some false; rw [decide_eq_false (by first | omega | (simp only [sumVal, oct.sumF, oct.F, oct.ws]; omega))])
def edRows10 : Ent := .bin .lss (.chan (some 4)) (.int .i64 1536) (.bool true)
theorem edRows10_ok (R : Nat → Int) (hR : ∀ j, 0 ≤ R j ∧ R j ≤ 255) (n0 : Nat) (hb : edRowB n0) (hc : (((R 1048588) * 256) + (R 1048589)) < 1536) : @EntOK (edRowV R hR n0) Try.prog edRows10 := by
  letI : Env := edRowV R hR n0
  have rb1048588 := hR 1048588; have rb1048589 := hR 1048589; exact entCmp (k := .i64) (a := (((R 1048588) * 256) + (R 1048589))) (b := 1536) rfl rfl (by show some (decide (((((R 1048588) * 256) + (R 1048589)) : Int) < 1536)) = some true; rw [decide_eq_true (by first | omega | (simp only [sumVal, oct.sumF, oct.F, oct.ws]; omega))])
def edRows11 : Ent := .bin .lss (.chan (some 0)) (.int .i64 14) (.bool true)
theorem edRows11_ok (R : Nat → Int) (hR : ∀ j, 0 ≤ R j ∧ R j ≤ 255) (n0 : Nat) (hb : edRowB n0) (hc : (n0 : Int) < 14) : @EntOK (edRowV R hR n0) Try.prog edRows11 := by
  letI : Env := edRowV R hR n0
  exact entCmp (k := .i64) (a := (n0 : Int)) (b := 14) rfl rfl (by show some (decide (((n0 : Int) : Int) < 14)) = some true; rw [decide_eq_true (by first | omega | (simp only [sumVal, oct.sumF, oct.F, oct.ws]; omega))])
abbrev edRowG : List Ent := [edRows5, edRows6, edRows7, edRows8]
theorem edRowG_ok (R : Nat → Int) (hR : ∀ j, 0 ≤ R j ∧ R j ≤ 255) (n0 : Nat) (hb : edRowB n0) : ∀ e ∈ edRowG, @EntOK (edRowV R hR n0) Try.prog e := by
  letI : Env := edRowV R hR n0
  exact (ac (edRows5_ok R hR n0 hb) (ac (edRows6_ok R hR n0 hb) (ac (edRows7_ok R hR n0 hb) (ac (edRows8_ok R hR n0 hb) allENil))))
set_option maxHeartbeats 4000000 in
theorem edRow_run (w : World) (R : Nat → Int) (hR : ∀ j, 0 ≤ R j ∧ R j ≤ 255) (A0 : Addr) (n0 cp0 : Nat) (w0 : RowIn R 1048576 w A0 n0 cp0) (hn : n0 ≤ 70000) (hm : 1 ≤ n0) (hx : n0 ≠ 14) (m0 : Nat) (hm0 : m0 ≤ n0) (L : List Ent) (hents : ∀ e ∈ L, @EntOK (edRowV R hR n0) Try.prog e) (h : says (fxCall Try.prog (tabG Try.prog L) (spTwo (spSpoil 14 5 [0]) (spTwo (spHelp ⟨12, 9, 13, 5⟩ [0]) (spKnown 15))) 300 4 [.slice (some ⟨0, 0, some 1⟩) m0 0] 1 (mem1 (rowAo 1048576 0 m0 5))) = some true) : Calls Try.prog 4 #[.slice (some A0) n0 cp0] w (fun e w' => e = .returned (.bool true) ∧ Only [] w w') := by
  letI : Env := (edRowV R hR n0)
  have hsp : SpOK Try.prog (spTwo (spSpoil 14 5 [0]) (spTwo (spHelp ⟨12, 9, 13, 5⟩ [0]) (spKnown 15))) := (spTwo_ok (spSpoil_ok (by
    intro q hq
    simp only [List.mem_cons, List.not_mem_nil, or_false] at hq
    subst hq
    rw [lenOf_eq (n := n0) rfl]; omega)) (spTwo_ok (spHelp_ok helpC (by
    intro q hq
    simp only [List.mem_cons, List.not_mem_nil, or_false] at hq
    subst hq
    rw [lenOf_eq (n := n0) rfl]; omega)) (spKnown_ok knownBody known)))
  refine lawR (tab := tabG Try.prog L) hsp (tabG_ok hents) (c0 := 1) (β0 := mp1 (rowIm A0 n0 cp0)) (w := w) h (sim1 rfl w0.lt (rowIn_ob w0 (by decide) rfl (by omega))) (fun i hi => ?_) ?_
  · match i, hi with
    | i + 1, _ => rfl
  · exact (PW.cons (rowIn_vr (m := m0) w0 rfl (by omega) (by omega) rfl) (PW.nil _))
abbrev edRow0L : List Ent := edRows0 :: edRowG
theorem edRow0 (w : World) (R : Nat → Int) (hR : ∀ j, 0 ≤ R j ∧ R j ≤ 255) (A0 : Addr) (n0 cp0 : Nat) (w0 : RowIn R 1048576 w A0 n0 cp0) (hn : n0 ≤ 70000) (hm : 1 ≤ n0) (hx : n0 ≠ 14) (k0 : (n0 : Int) > 2000) : Calls Try.prog 4 #[.slice (some A0) n0 cp0] w (fun e w' => e = .returned (.bool true) ∧ Only [] w w') := by
  letI : Env := (edRowV R hR n0)
  have hb : edRowB n0 := ⟨hn, hm, hx⟩
  exact edRow_run w R hR A0 n0 cp0 w0 hn hm hx 1 (by omega) edRow0L (ac (edRows0_ok R hR n0 hb k0) (edRowG_ok R hR n0 hb)) (by kernel_rfl)
abbrev edRow1L : List Ent := edRows1 :: edRows2 :: edRows3 :: edRowG
theorem edRow1 (w : World) (R : Nat → Int) (hR : ∀ j, 0 ≤ R j ∧ R j ≤ 255) (A0 : Addr) (n0 cp0 : Nat) (w0 : RowIn R 1048576 w A0 n0 cp0) (hn : n0 ≤ 70000) (hm : 1 ≤ n0) (hx : n0 ≠ 14) (k0 : ¬ ((n0 : Int) > 2000)) (k1 : ¬ ((n0 : Int) < 14)) (k2 : (n0 : Int) > 1514) : Calls Try.prog 4 #[.slice (some A0) n0 cp0] w (fun e w' => e = .returned (.bool true) ∧ Only [] w w') := by
  letI : Env := (edRowV R hR n0)
  have hb : edRowB n0 := ⟨hn, hm, hx⟩
  exact edRow_run w R hR A0 n0 cp0 w0 hn hm hx 1 (by omega) edRow1L (ac (edRows1_ok R hR n0 hb k0) (ac (edRows2_ok R hR n0 hb k1) (ac (edRows3_ok R hR n0 hb k2) (edRowG_ok R hR n0 hb)))) (by kernel_rfl)
abbrev edRow2K (R : Nat → Int) (n0 : Nat) : Prop := edRowB n0 ∧ (¬ ((n0 : Int) > 2000)) ∧ (¬ ((n0 : Int) < 14)) ∧ (¬ ((n0 : Int) > 1514)) ∧ (¬ ((((R 1048588) * 256) + (R 1048589)) < 1536)) ∧ True
def edRow2e8 : Ent := .eqs false 23 [.chan (some 1048576), .chan (some 1048577), .chan (some 1048578), .chan (some 1048579), .chan (some 1048580), .chan (some 1048581)] [.chan (some 1048576), .chan (some 1048577), .chan (some 1048578), .chan (some 1048579), .chan (some 1048580), .chan (some 1048581)] true
theorem edRow2e8_ok (R : Nat → Int) (hR : ∀ j, 0 ≤ R j ∧ R j ≤ 255) (n0 : Nat) (hk : edRow2K R n0) : @EntOK (edRowV R hR n0) Try.prog edRow2e8 := by
  letI : Env := (edRowV R hR n0)
  obtain ⟨hb, k0, k1, k2, k3, _⟩ := hk; have rb1048588 := hR 1048588; have rb1048589 := hR 1048589; exact ⟨by intro v hv; simp only [List.mem_cons, List.not_mem_nil, or_false] at hv; rcases hv with rfl | rfl | rfl | rfl | rfl | rfl <;> first | exact .inl ⟨_, _, rfl⟩ | exact .inr ⟨_, rfl⟩, by intro v hv; simp only [List.mem_cons, List.not_mem_nil, or_false] at hv; rcases hv with rfl | rfl | rfl | rfl | rfl | rfl <;> first | exact .inl ⟨_, _, rfl⟩ | exact .inr ⟨_, rfl⟩, by intro a1 a2 w; exact eqMACn _ _ _ _ _ _ _ _ _ _ _ _ (by first | omega | (simp only [sumVal, oct.sumF, oct.F, oct.ws]; omega)) (by first | omega | (simp only [sumVal, oct.sumF, oct.F, oct.ws]; omega)) (by first | omega | (simp only [sumVal, oct.sumF, oct.F, oct.ws]; omega)) (by first | omega | (simp only [sumVal, oct.sumF, oct.F, oct.ws]; omega)) (by first | omega | (simp only [sumVal, oct.sumF, oct.F, oct.ws]; omega)) (by first | omega | (simp only [sumVal, oct.sumF, oct.F, oct.ws]; omega)) a1 a2 w⟩
def edRow2e9 : Ent := .eqs false 23 [.chan (some 1048582), .chan (some 1048583), .chan (some 1048584), .chan (some 1048585), .chan (some 1048586), .chan (some 1048587)] [.chan (some 1048582), .chan (some 1048583), .chan (some 1048584), .chan (some 1048585), .chan (some 1048586), .chan (some 1048587)] true
theorem edRow2e9_ok (R : Nat → Int) (hR : ∀ j, 0 ≤ R j ∧ R j ≤ 255) (n0 : Nat) (hk : edRow2K R n0) : @EntOK (edRowV R hR n0) Try.prog edRow2e9 := by
  letI : Env := (edRowV R hR n0)
  obtain ⟨hb, k0, k1, k2, k3, _⟩ := hk; have rb1048588 := hR 1048588; have rb1048589 := hR 1048589; exact ⟨by intro v hv; simp only [List.mem_cons, List.not_mem_nil, or_false] at hv; rcases hv with rfl | rfl | rfl | rfl | rfl | rfl <;> first | exact .inl ⟨_, _, rfl⟩ | exact .inr ⟨_, rfl⟩, by intro v hv; simp only [List.mem_cons, List.not_mem_nil, or_false] at hv; rcases hv with rfl | rfl | rfl | rfl | rfl | rfl <;> first | exact .inl ⟨_, _, rfl⟩ | exact .inr ⟨_, rfl⟩, by intro a1 a2 w; exact eqMACn _ _ _ _ _ _ _ _ _ _ _ _ (by first | omega | (simp only [sumVal, oct.sumF, oct.F, oct.ws]; omega)) (by first | omega | (simp only [sumVal, oct.sumF, oct.F, oct.ws]; omega)) (by first | omega | (simp only [sumVal, oct.sumF, oct.F, oct.ws]; omega)) (by first | omega | (simp only [sumVal, oct.sumF, oct.F, oct.ws]; omega)) (by first | omega | (simp only [sumVal, oct.sumF, oct.F, oct.ws]; omega)) (by first | omega | (simp only [sumVal, oct.sumF, oct.F, oct.ws]; omega)) a1 a2 w⟩
def edRow2e10 : Ent := .bin .eql (.chan (some 4)) (.chan (some 4)) (.bool true)
theorem edRow2e10_ok (R : Nat → Int) (hR : ∀ j, 0 ≤ R j ∧ R j ≤ 255) (n0 : Nat) (hk : edRow2K R n0) : @EntOK (edRowV R hR n0) Try.prog edRow2e10 := by
  letI : Env := (edRowV R hR n0)
  obtain ⟨hb, k0, k1, k2, k3, _⟩ := hk; have rb1048588 := hR 1048588; have rb1048589 := hR 1048589; exact entCmp (k := .i64) (a := (((R 1048588) * 256) + (R 1048589))) (b := (((R 1048588) * 256) + (R 1048589))) rfl rfl (by show some (((((R 1048588) * 256) + (R 1048589)) : Int) == (((R 1048588) * 256) + (R 1048589))) = some true; rw [beq_iff_eq.2 (by first | omega | (simp only [sumVal, oct.sumF, oct.F, oct.ws]; omega))])
abbrev edRow2L : List Ent := edRows1 :: edRows2 :: edRows4 :: edRows9 :: edRow2e8 :: edRow2e9 :: edRow2e10 :: edRowG
theorem edRow2 (w : World) (R : Nat → Int) (hR : ∀ j, 0 ≤ R j ∧ R j ≤ 255) (A0 : Addr) (n0 cp0 : Nat) (w0 : RowIn R 1048576 w A0 n0 cp0) (hn : n0 ≤ 70000) (hm : 1 ≤ n0) (hx : n0 ≠ 14) (k0 : ¬ ((n0 : Int) > 2000)) (k1 : ¬ ((n0 : Int) < 14)) (k2 : ¬ ((n0 : Int) > 1514)) (k3 : ¬ ((((R 1048588) * 256) + (R 1048589)) < 1536)) : Calls Try.prog 4 #[.slice (some A0) n0 cp0] w (fun e w' => e = .returned (.bool true) ∧ Only [] w w') := by
  letI : Env := (edRowV R hR n0)
  have hb : edRowB n0 := ⟨hn, hm, hx⟩
  have hk : edRow2K R n0 := ⟨hb, k0, k1, k2, k3, trivial⟩
  exact edRow_run w R hR A0 n0 cp0 w0 hn hm hx 15 (by omega) edRow2L (ac (edRows1_ok R hR n0 hb k0) (ac (edRows2_ok R hR n0 hb k1) (ac (edRows4_ok R hR n0 hb k2) (ac (edRows9_ok R hR n0 hb k3) (ac (edRow2e8_ok R hR n0 hk) (ac (edRow2e9_ok R hR n0 hk) (ac (edRow2e10_ok R hR n0 hk) (edRowG_ok R hR n0 hb)))))))) (by kernel_rfl)
abbrev edRow3L : List Ent := edRows1 :: edRows2 :: edRows4 :: edRows10 :: edRowG
theorem edRow3 (w : World) (R : Nat → Int) (hR : ∀ j, 0 ≤ R j ∧ R j ≤ 255) (A0 : Addr) (n0 cp0 : Nat) (w0 : RowIn R 1048576 w A0 n0 cp0) (hn : n0 ≤ 70000) (hm : 1 ≤ n0) (hx : n0 ≠ 14) (k0 : ¬ ((n0 : Int) > 2000)) (k1 : ¬ ((n0 : Int) < 14)) (k2 : ¬ ((n0 : Int) > 1514)) (k3 : (((R 1048588) * 256) + (R 1048589)) < 1536) : Calls Try.prog 4 #[.slice (some A0) n0 cp0] w (fun e w' => e = .returned (.bool true) ∧ Only [] w w') := by
  letI : Env := (edRowV R hR n0)
  have hb : edRowB n0 := ⟨hn, hm, hx⟩
  exact edRow_run w R hR A0 n0 cp0 w0 hn hm hx 14 (by omega) edRow3L (ac (edRows1_ok R hR n0 hb k0) (ac (edRows2_ok R hR n0 hb k1) (ac (edRows4_ok R hR n0 hb k2) (ac (edRows10_ok R hR n0 hb k3) (edRowG_ok R hR n0 hb))))) (by kernel_rfl)
abbrev edRow4L : List Ent := edRows1 :: edRows11 :: edRowG
theorem edRow4 (w : World) (R : Nat → Int) (hR : ∀ j, 0 ≤ R j ∧ R j ≤ 255) (A0 : Addr) (n0 cp0 : Nat) (w0 : RowIn R 1048576 w A0 n0 cp0) (hn : n0 ≤ 70000) (hm : 1 ≤ n0) (hx : n0 ≠ 14) (k0 : ¬ ((n0 : Int) > 2000)) (k1 : (n0 : Int) < 14) : Calls Try.prog 4 #[.slice (some A0) n0 cp0] w (fun e w' => e = .returned (.bool true) ∧ Only [] w w') := by
  letI : Env := (edRowV R hR n0)
  have hb : edRowB n0 := ⟨hn, hm, hx⟩
  exact edRow_run w R hR A0 n0 cp0 w0 hn hm hx 1 (by omega) edRow4L (ac (edRows1_ok R hR n0 hb k0) (ac (edRows11_ok R hR n0 hb k1) (edRowG_ok R hR n0 hb))) (by kernel_rfl)
theorem EtherDecodesRow (w : World) (R : Nat → Int) (hR : ∀ j, 0 ≤ R j ∧ R j ≤ 255) (A0 : Addr) (n0 cp0 : Nat) (w0 : RowIn R 1048576 w A0 n0 cp0) (hn : n0 ≤ 70000) (hm : 1 ≤ n0) (hx : n0 ≠ 14) : Calls Try.prog 4 #[.slice (some A0) n0 cp0] w (fun e w' => e = .returned (.bool true) ∧ Only [] w w') := by
  have rb1048588 := hR 1048588
  have rb1048589 := hR 1048589
  by_cases h1 : (n0 : Int) > 2000
  ·
    exact edRow0 w R hR A0 n0 cp0 w0 hn hm hx h1
  ·
    by_cases h2 : (n0 : Int) < 14
    ·
      exact edRow4 w R hR A0 n0 cp0 w0 hn hm hx h1 h2
    ·
      by_cases h3 : (n0 : Int) > 1514
      ·
        exact edRow1 w R hR A0 n0 cp0 w0 hn hm hx h1 h2 h3
      ·
        by_cases h4 : (((R 1048588) * 256) + (R 1048589)) < 1536
        ·
          exact edRow3 w R hR A0 n0 cp0 w0 hn hm hx h1 h2 h3 h4
        ·
          exact edRow2 w R hR A0 n0 cp0 w0 hn hm hx h1 h2 h3 h4
abbrev edFixV (R : Nat → Int) (hR : ∀ j, 0 ≤ R j ∧ R j ≤ 255) (n0 : Nat) : Env := envR [.int .i64 (n0 : Int), .int .i64 (R 1048588), .int .i64 ((R 1048588) * 256), .int .i64 (R 1048589), .int .i64 (((R 1048588) * 256) + (R 1048589))] R hR
abbrev edFixB (n0 : Nat) : Prop := n0 = 14
def edFixs0 : Ent := .conv .i64 (.chan (some 1048588)) (.chan (some 1))
theorem edFixs0_ok (R : Nat → Int) (hR : ∀ j, 0 ≤ R j ∧ R j ≤ 255) (n0 : Nat) (hb : edFixB n0) : @EntOK (edFixV R hR n0) Try.prog edFixs0 := by
  letI : Env := edFixV R hR n0
  have rb1048588 := hR 1048588; exact entConvV (k := .i64) (l := .u8) (a := (R 1048588)) (c := (R 1048588)) rfl rfl (by rw [IntWalk.i64_in _ (by first | omega | (simp only [sumVal, oct.sumF, oct.F, oct.ws]; omega))])
def edFixs1 : Ent := .bin .shl (.chan (some 1)) (.int .u64 8) (.chan (some 2))
theorem edFixs1_ok (R : Nat → Int) (hR : ∀ j, 0 ≤ R j ∧ R j ≤ 255) (n0 : Nat) (hb : edFixB n0) : @EntOK (edFixV R hR n0) Try.prog edFixs1 := by
  letI : Env := edFixV R hR n0
  have rb1048588 := hR 1048588; exact entShlV (k := .i64) (l := .u64) (a := (R 1048588)) (c := ((R 1048588) * 256)) (s := 8) rfl rfl rfl (by decide) (by show IntKind.i64.wrap ((R 1048588) * 2 ^ 8) = ((R 1048588) * 256); rw [show ((2 : Int) ^ 8) = 256 from by decide, IntWalk.i64_in _ (by first | omega | (simp only [sumVal, oct.sumF, oct.F, oct.ws]; omega))])
def edFixs2 : Ent := .conv .i64 (.chan (some 1048589)) (.chan (some 3))
theorem edFixs2_ok (R : Nat → Int) (hR : ∀ j, 0 ≤ R j ∧ R j ≤ 255) (n0 : Nat) (hb : edFixB n0) : @EntOK (edFixV R hR n0) Try.prog edFixs2 := by
  letI : Env := edFixV R hR n0
  have rb1048589 := hR 1048589; exact entConvV (k := .i64) (l := .u8) (a := (R 1048589)) (c := (R 1048589)) rfl rfl (by rw [IntWalk.i64_in _ (by first | omega | (simp only [sumVal, oct.sumF, oct.F, oct.ws]; omega))])
def edFixs3 : Ent := .bin .or (.chan (some 2)) (.chan (some 3)) (.chan (some 4))
theorem edFixs3_ok (R : Nat → Int) (hR : ∀ j, 0 ≤ R j ∧ R j ≤ 255) (n0 : Nat) (hb : edFixB n0) : @EntOK (edFixV R hR n0) Try.prog edFixs3 := by
  letI : Env := edFixV R hR n0
  have rb1048588 := hR 1048588; have rb1048589 := hR 1048589; exact entOrV (k := .i64) (a := ((R 1048588) * 256)) (b := (R 1048589)) (c := (((R 1048588) * 256) + (R 1048589))) rfl rfl rfl (by exact join_i64 (R 1048588) (R 1048589) 8 256 (by decide) (by first | omega | (simp only [sumVal, oct.sumF, oct.F, oct.ws]; omega)) (by first | omega | (simp only [sumVal, oct.sumF, oct.F, oct.ws]; omega)) (by first | omega | (simp only [sumVal, oct.sumF, oct.F, oct.ws]; omega)) (by first | omega | (simp only [sumVal, oct.sumF, oct.F, oct.ws]; omega)))
def edFixs4 : Ent := .bin .lss (.chan (some 4)) (.int .i64 1536) (.bool false)
theorem edFixs4_ok (R : Nat → Int) (hR : ∀ j, 0 ≤ R j ∧ R j ≤ 255) (n0 : Nat) (hb : edFixB n0) (hc : ¬ ((((R 1048588) * 256) + (R 1048589)) < 1536)) : @EntOK (edFixV R hR n0) Try.prog edFixs4 := by
  letI : Env := edFixV R hR n0
  have rb1048588 := hR 1048588; have rb1048589 := hR 1048589; exact entCmp (k := .i64) (a := (((R 1048588) * 256) + (R 1048589))) (b := 1536) rfl rfl (by show some (decide (((((R 1048588) * 256) + (R 1048589)) : Int) < 1536)) = some false; rw [decide_eq_false (by first | omega | (simp only [sumVal, oct.sumF, oct.F, oct.ws]; omega))])
def edFixs5 : Ent := .bin .lss (.chan (some 4)) (.int .i64 1536) (.bool true)
theorem edFixs5_ok (R : Nat → Int) (hR : ∀ j, 0 ≤ R j ∧ R j ≤ 255) (n0 : Nat) (hb : edFixB n0) (hc : (((R 1048588) * 256) + (R 1048589)) < 1536) : @EntOK (edFixV R hR n0) Try.prog edFixs5 := by
  letI : Env := edFixV R hR n0
  have rb1048588 := hR 1048588; have rb1048589 := hR 1048589; exact entCmp (k := .i64) (a := (((R 1048588) * 256) + (R 1048589))) (b := 1536) rfl rfl (by show some (decide (((((R 1048588) * 256) + (R 1048589)) : Int) < 1536)) = some true; rw [decide_eq_true (by first | omega | (simp only [sumVal, oct.sumF, oct.F, oct.ws]; omega))])
abbrev edFixG : List Ent := [edFixs0, edFixs1, edFixs2, edFixs3]
theorem edFixG_ok (R : Nat → Int) (hR : ∀ j, 0 ≤ R j ∧ R j ≤ 255) (n0 : Nat) (hb : edFixB n0) : ∀ e ∈ edFixG, @EntOK (edFixV R hR n0) Try.prog e := by
  letI : Env := edFixV R hR n0
  exact (ac (edFixs0_ok R hR n0 hb) (ac (edFixs1_ok R hR n0 hb) (ac (edFixs2_ok R hR n0 hb) (ac (edFixs3_ok R hR n0 hb) allENil))))
set_option maxHeartbeats 4000000 in
theorem edFix_run (w : World) (R : Nat → Int) (hR : ∀ j, 0 ≤ R j ∧ R j ≤ 255) (A0 : Addr) (n0 cp0 : Nat) (w0 : RowIn R 1048576 w A0 n0 cp0) (hn : n0 ≤ 70000) (hm : 1 ≤ n0) (hx : n0 = 14) (m0 : Nat) (hm0 : m0 ≤ n0) (L : List Ent) (hents : ∀ e ∈ L, @EntOK (edFixV R hR n0) Try.prog e) (h : says (fxCall Try.prog (tabG Try.prog L) (spTwo (spSpoil 14 5 [0]) (spTwo (spHelp ⟨12, 9, 13, 5⟩ [0]) (spKnown 15))) 300 4 [.slice (some ⟨0, 0, some 0⟩) 14 0] 1 (mem1 (rowAo 1048576 0 m0 5))) = some true) : Calls Try.prog 4 #[.slice (some A0) n0 cp0] w (fun e w' => e = .returned (.bool true) ∧ Only [] w w') := by
  letI : Env := (edFixV R hR n0)
  have hsp : SpOK Try.prog (spTwo (spSpoil 14 5 [0]) (spTwo (spHelp ⟨12, 9, 13, 5⟩ [0]) (spKnown 15))) := (spTwo_ok (spSpoil_ok (by
    intro q hq
    simp only [List.mem_cons, List.not_mem_nil, or_false] at hq
    subst hq
    rw [lenOf_eq (n := n0) rfl]; omega)) (spTwo_ok (spHelp_ok helpC (by
    intro q hq
    simp only [List.mem_cons, List.not_mem_nil, or_false] at hq
    subst hq
    rw [lenOf_eq (n := n0) rfl]; omega)) (spKnown_ok knownBody known)))
  refine lawR (tab := tabG Try.prog L) hsp (tabG_ok hents) (c0 := 1) (β0 := mp1 (rowIm A0 n0 cp0)) (w := w) h (sim1 rfl w0.lt (rowIn_ob w0 (by decide) rfl (by omega))) (fun i hi => ?_) ?_
  · match i, hi with
    | i + 1, _ => rfl
  · exact (PW.cons (rowIn_vrK (m := 14) w0 hx rfl) (PW.nil _))
abbrev edFix0K (R : Nat → Int) (n0 : Nat) : Prop := edFixB n0 ∧ (¬ ((((R 1048588) * 256) + (R 1048589)) < 1536)) ∧ True
def edFix0e5 : Ent := .eqs false 23 [.chan (some 1048576), .chan (some 1048577), .chan (some 1048578), .chan (some 1048579), .chan (some 1048580), .chan (some 1048581)] [.chan (some 1048576), .chan (some 1048577), .chan (some 1048578), .chan (some 1048579), .chan (some 1048580), .chan (some 1048581)] true
theorem edFix0e5_ok (R : Nat → Int) (hR : ∀ j, 0 ≤ R j ∧ R j ≤ 255) (n0 : Nat) (hk : edFix0K R n0) : @EntOK (edFixV R hR n0) Try.prog edFix0e5 := by
  letI : Env := (edFixV R hR n0)
  obtain ⟨hb, k0, _⟩ := hk; have rb1048588 := hR 1048588; have rb1048589 := hR 1048589; exact ⟨by intro v hv; simp only [List.mem_cons, List.not_mem_nil, or_false] at hv; rcases hv with rfl | rfl | rfl | rfl | rfl | rfl <;> first | exact .inl ⟨_, _, rfl⟩ | exact .inr ⟨_, rfl⟩, by intro v hv; simp only [List.mem_cons, List.not_mem_nil, or_false] at hv; rcases hv with rfl | rfl | rfl | rfl | rfl | rfl <;> first | exact .inl ⟨_, _, rfl⟩ | exact .inr ⟨_, rfl⟩, by intro a1 a2 w; exact eqMACn _ _ _ _ _ _ _ _ _ _ _ _ (by first | omega | (simp only [sumVal, oct.sumF, oct.F, oct.ws]; omega)) (by first | omega | (simp only [sumVal, oct.sumF, oct.F, oct.ws]; omega)) (by first | omega | (simp only [sumVal, oct.sumF, oct.F, oct.ws]; omega)) (by first | omega | (simp only [sumVal, oct.sumF, oct.F, oct.ws]; omega)) (by first | omega | (simp only [sumVal, oct.sumF, oct.F, oct.ws]; omega)) (by first | omega | (simp only [sumVal, oct.sumF, oct.F, oct.ws]; omega)) a1 a2 w⟩
def edFix0e6 : Ent := .eqs false 23 [.chan (some 1048582), .chan (some 1048583), .chan (some 1048584), .chan (some 1048585), .chan (some 1048586), .chan (some 1048587)] [.chan (some 1048582), .chan (some 1048583), .chan (some 1048584), .chan (some 1048585), .chan (some 1048586), .chan (some 1048587)] true
theorem edFix0e6_ok (R : Nat → Int) (hR : ∀ j, 0 ≤ R j ∧ R j ≤ 255) (n0 : Nat) (hk : edFix0K R n0) : @EntOK (edFixV R hR n0) Try.prog edFix0e6 := by
  letI : Env := (edFixV R hR n0)
  obtain ⟨hb, k0, _⟩ := hk; have rb1048588 := hR 1048588; have rb1048589 := hR 1048589; exact ⟨by intro v hv; simp only [List.mem_cons, List.not_mem_nil, or_false] at hv; rcases hv with rfl | rfl | rfl | rfl | rfl | rfl <;> first | exact .inl ⟨_, _, rfl⟩ | exact .inr ⟨_, rfl⟩, by intro v hv; simp only [List.mem_cons, List.not_mem_nil, or_false] at hv; rcases hv with rfl | rfl | rfl | rfl | rfl | rfl <;> first | exact .inl ⟨_, _, rfl⟩ | exact .inr ⟨_, rfl⟩, by intro a1 a2 w; exact eqMACn _ _ _ _ _ _ _ _ _ _ _ _ (by first | omega | (simp only [sumVal, oct.sumF, oct.F, oct.ws]; omega)) (by first | omega | (simp only [sumVal, oct.sumF, oct.F, oct.ws]; omega)) (by first | omega | (simp only [sumVal, oct.sumF, oct.F, oct.ws]; omega)) (by first | omega | (simp only [sumVal, oct.sumF, oct.F, oct.ws]; omega)) (by first | omega | (simp only [sumVal, oct.sumF, oct.F, oct.ws]; omega)) (by first | omega | (simp only [sumVal, oct.sumF, oct.F, oct.ws]; omega)) a1 a2 w⟩
def edFix0e7 : Ent := .bin .eql (.chan (some 4)) (.chan (some 4)) (.bool true)
theorem edFix0e7_ok (R : Nat → Int) (hR : ∀ j, 0 ≤ R j ∧ R j ≤ 255) (n0 : Nat) (hk : edFix0K R n0) : @EntOK (edFixV R hR n0) Try.prog edFix0e7 := by
  letI : Env := (edFixV R hR n0)
  obtain ⟨hb, k0, _⟩ := hk; have rb1048588 := hR 1048588; have rb1048589 := hR 1048589; exact entCmp (k := .i64) (a := (((R 1048588) * 256) + (R 1048589))) (b := (((R 1048588) * 256) + (R 1048589))) rfl rfl (by show some (((((R 1048588) * 256) + (R 1048589)) : Int) == (((R 1048588) * 256) + (R 1048589))) = some true; rw [beq_iff_eq.2 (by first | omega | (simp only [sumVal, oct.sumF, oct.F, oct.ws]; omega))])
def edFix0e8 : Ent := .bin .neq (.chan (some 1048576)) (.chan (some 1048576)) (.bool false)
theorem edFix0e8_ok (R : Nat → Int) (hR : ∀ j, 0 ≤ R j ∧ R j ≤ 255) (n0 : Nat) (hk : edFix0K R n0) : @EntOK (edFixV R hR n0) Try.prog edFix0e8 := by
  letI : Env := (edFixV R hR n0)
  obtain ⟨hb, k0, _⟩ := hk; have rb1048576 := hR 1048576; have rb1048588 := hR 1048588; have rb1048589 := hR 1048589; exact entCmp (k := .u8) (a := (R 1048576)) (b := (R 1048576)) rfl rfl (by show some (((R 1048576) : Int) != (R 1048576)) = some false; rw [bne_eq_false_iff_eq.2 (by first | omega | (simp only [sumVal, oct.sumF, oct.F, oct.ws]; omega))])
def edFix0e9 : Ent := .bin .neq (.chan (some 1048577)) (.chan (some 1048577)) (.bool false)
theorem edFix0e9_ok (R : Nat → Int) (hR : ∀ j, 0 ≤ R j ∧ R j ≤ 255) (n0 : Nat) (hk : edFix0K R n0) : @EntOK (edFixV R hR n0) Try.prog edFix0e9 := by
  letI : Env := (edFixV R hR n0)
  obtain ⟨hb, k0, _⟩ := hk; have rb1048577 := hR 1048577; have rb1048588 := hR 1048588; have rb1048589 := hR 1048589; exact entCmp (k := .u8) (a := (R 1048577)) (b := (R 1048577)) rfl rfl (by show some (((R 1048577) : Int) != (R 1048577)) = some false; rw [bne_eq_false_iff_eq.2 (by first | omega | (simp only [sumVal, oct.sumF, oct.F, oct.ws]; omega))])
def edFix0e10 : Ent := .bin .neq (.chan (some 1048578)) (.chan (some 1048578)) (.bool false)
theorem edFix0e10_ok (R : Nat → Int) (hR : ∀ j, 0 ≤ R j ∧ R j ≤ 255) (n0 : Nat) (hk : edFix0K R n0) : @EntOK (edFixV R hR n0) Try.prog edFix0e10 := by
  letI : Env := (edFixV R hR n0)
  obtain ⟨hb, k0, _⟩ := hk; have rb1048578 := hR 1048578; have rb1048588 := hR 1048588; have rb1048589 := hR 1048589; exact entCmp (k := .u8) (a := (R 1048578)) (b := (R 1048578)) rfl rfl (by show some (((R 1048578) : Int) != (R 1048578)) = some false; rw [bne_eq_false_iff_eq.2 (by first | omega | (simp only [sumVal, oct.sumF, oct.F, oct.ws]; omega))])
def edFix0e11 : Ent := .bin .neq (.chan (some 1048579)) (.chan (some 1048579)) (.bool false)
theorem edFix0e11_ok (R : Nat → Int) (hR : ∀ j, 0 ≤ R j ∧ R j ≤ 255) (n0 : Nat) (hk : edFix0K R n0) : @EntOK (edFixV R hR n0) Try.prog edFix0e11 := by
  letI : Env := (edFixV R hR n0)
  obtain ⟨hb, k0, _⟩ := hk; have rb1048579 := hR 1048579; have rb1048588 := hR 1048588; have rb1048589 := hR 1048589; exact entCmp (k := .u8) (a := (R 1048579)) (b := (R 1048579)) rfl rfl (by show some (((R 1048579) : Int) != (R 1048579)) = some false; rw [bne_eq_false_iff_eq.2 (by first | omega | (simp only [sumVal, oct.sumF, oct.F, oct.ws]; omega))])
def edFix0e12 : Ent := .bin .neq (.chan (some 1048580)) (.chan (some 1048580)) (.bool false)
theorem edFix0e12_ok (R : Nat → Int) (hR : ∀ j, 0 ≤ R j ∧ R j ≤ 255) (n0 : Nat) (hk : edFix0K R n0) : @EntOK (edFixV R hR n0) Try.prog edFix0e12 := by
  letI : Env := (edFixV R hR n0)
  obtain ⟨hb, k0, _⟩ := hk; have rb1048580 := hR 1048580; have rb1048588 := hR 1048588; have rb1048589 := hR 1048589; exact entCmp (k := .u8) (a := (R 1048580)) (b := (R 1048580)) rfl rfl (by show some (((R 1048580) : Int) != (R 1048580)) = some false; rw [bne_eq_false_iff_eq.2 (by first | omega | (simp only [sumVal, oct.sumF, oct.F, oct.ws]; omega))])
def edFix0e13 : Ent := .bin .neq (.chan (some 1048581)) (.chan (some 1048581)) (.bool false)
theorem edFix0e13_ok (R : Nat → Int) (hR : ∀ j, 0 ≤ R j ∧ R j ≤ 255) (n0 : Nat) (hk : edFix0K R n0) : @EntOK (edFixV R hR n0) Try.prog edFix0e13 := by
  letI : Env := (edFixV R hR n0)
  obtain ⟨hb, k0, _⟩ := hk; have rb1048581 := hR 1048581; have rb1048588 := hR 1048588; have rb1048589 := hR 1048589; exact entCmp (k := .u8) (a := (R 1048581)) (b := (R 1048581)) rfl rfl (by show some (((R 1048581) : Int) != (R 1048581)) = some false; rw [bne_eq_false_iff_eq.2 (by first | omega | (simp only [sumVal, oct.sumF, oct.F, oct.ws]; omega))])
def edFix0e14 : Ent := .bin .neq (.chan (some 1048582)) (.chan (some 1048582)) (.bool false)
theorem edFix0e14_ok (R : Nat → Int) (hR : ∀ j, 0 ≤ R j ∧ R j ≤ 255) (n0 : Nat) (hk : edFix0K R n0) : @EntOK (edFixV R hR n0) Try.prog edFix0e14 := by
  letI : Env := (edFixV R hR n0)
  obtain ⟨hb, k0, _⟩ := hk; have rb1048582 := hR 1048582; have rb1048588 := hR 1048588; have rb1048589 := hR 1048589; exact entCmp (k := .u8) (a := (R 1048582)) (b := (R 1048582)) rfl rfl (by show some (((R 1048582) : Int) != (R 1048582)) = some false; rw [bne_eq_false_iff_eq.2 (by first | omega | (simp only [sumVal, oct.sumF, oct.F, oct.ws]; omega))])
def edFix0e15 : Ent := .bin .neq (.chan (some 1048583)) (.chan (some 1048583)) (.bool false)
theorem edFix0e15_ok (R : Nat → Int) (hR : ∀ j, 0 ≤ R j ∧ R j ≤ 255) (n0 : Nat) (hk : edFix0K R n0) : @EntOK (edFixV R hR n0) Try.prog edFix0e15 := by
  letI : Env := (edFixV R hR n0)
  obtain ⟨hb, k0, _⟩ := hk; have rb1048583 := hR 1048583; have rb1048588 := hR 1048588; have rb1048589 := hR 1048589; exact entCmp (k := .u8) (a := (R 1048583)) (b := (R 1048583)) rfl rfl (by show some (((R 1048583) : Int) != (R 1048583)) = some false; rw [bne_eq_false_iff_eq.2 (by first | omega | (simp only [sumVal, oct.sumF, oct.F, oct.ws]; omega))])
def edFix0e16 : Ent := .bin .neq (.chan (some 1048584)) (.chan (some 1048584)) (.bool false)
theorem edFix0e16_ok (R : Nat → Int) (hR : ∀ j, 0 ≤ R j ∧ R j ≤ 255) (n0 : Nat) (hk : edFix0K R n0) : @EntOK (edFixV R hR n0) Try.prog edFix0e16 := by
  letI : Env := (edFixV R hR n0)
  obtain ⟨hb, k0, _⟩ := hk; have rb1048584 := hR 1048584; have rb1048588 := hR 1048588; have rb1048589 := hR 1048589; exact entCmp (k := .u8) (a := (R 1048584)) (b := (R 1048584)) rfl rfl (by show some (((R 1048584) : Int) != (R 1048584)) = some false; rw [bne_eq_false_iff_eq.2 (by first | omega | (simp only [sumVal, oct.sumF, oct.F, oct.ws]; omega))])
def edFix0e17 : Ent := .bin .neq (.chan (some 1048585)) (.chan (some 1048585)) (.bool false)
theorem edFix0e17_ok (R : Nat → Int) (hR : ∀ j, 0 ≤ R j ∧ R j ≤ 255) (n0 : Nat) (hk : edFix0K R n0) : @EntOK (edFixV R hR n0) Try.prog edFix0e17 := by
  letI : Env := (edFixV R hR n0)
  obtain ⟨hb, k0, _⟩ := hk; have rb1048585 := hR 1048585; have rb1048588 := hR 1048588; have rb1048589 := hR 1048589; exact entCmp (k := .u8) (a := (R 1048585)) (b := (R 1048585)) rfl rfl (by show some (((R 1048585) : Int) != (R 1048585)) = some false; rw [bne_eq_false_iff_eq.2 (by first | omega | (simp only [sumVal, oct.sumF, oct.F, oct.ws]; omega))])
def edFix0e18 : Ent := .bin .neq (.chan (some 1048586)) (.chan (some 1048586)) (.bool false)
theorem edFix0e18_ok (R : Nat → Int) (hR : ∀ j, 0 ≤ R j ∧ R j ≤ 255) (n0 : Nat) (hk : edFix0K R n0) : @EntOK (edFixV R hR n0) Try.prog edFix0e18 := by
  letI : Env := (edFixV R hR n0)
  obtain ⟨hb, k0, _⟩ := hk; have rb1048586 := hR 1048586; have rb1048588 := hR 1048588; have rb1048589 := hR 1048589; exact entCmp (k := .u8) (a := (R 1048586)) (b := (R 1048586)) rfl rfl (by show some (((R 1048586) : Int) != (R 1048586)) = some false; rw [bne_eq_false_iff_eq.2 (by first | omega | (simp only [sumVal, oct.sumF, oct.F, oct.ws]; omega))])
def edFix0e19 : Ent := .bin .neq (.chan (some 1048587)) (.chan (some 1048587)) (.bool false)
theorem edFix0e19_ok (R : Nat → Int) (hR : ∀ j, 0 ≤ R j ∧ R j ≤ 255) (n0 : Nat) (hk : edFix0K R n0) : @EntOK (edFixV R hR n0) Try.prog edFix0e19 := by
  letI : Env := (edFixV R hR n0)
  obtain ⟨hb, k0, _⟩ := hk; have rb1048587 := hR 1048587; have rb1048588 := hR 1048588; have rb1048589 := hR 1048589; exact entCmp (k := .u8) (a := (R 1048587)) (b := (R 1048587)) rfl rfl (by show some (((R 1048587) : Int) != (R 1048587)) = some false; rw [bne_eq_false_iff_eq.2 (by first | omega | (simp only [sumVal, oct.sumF, oct.F, oct.ws]; omega))])
def edFix0e20 : Ent := .bin .neq (.chan (some 1048588)) (.chan (some 1048588)) (.bool false)
theorem edFix0e20_ok (R : Nat → Int) (hR : ∀ j, 0 ≤ R j ∧ R j ≤ 255) (n0 : Nat) (hk : edFix0K R n0) : @EntOK (edFixV R hR n0) Try.prog edFix0e20 := by
  letI : Env := (edFixV R hR n0)
  obtain ⟨hb, k0, _⟩ := hk; have rb1048588 := hR 1048588; have rb1048589 := hR 1048589; exact entCmp (k := .u8) (a := (R 1048588)) (b := (R 1048588)) rfl rfl (by show some (((R 1048588) : Int) != (R 1048588)) = some false; rw [bne_eq_false_iff_eq.2 (by first | omega | (simp only [sumVal, oct.sumF, oct.F, oct.ws]; omega))])
def edFix0e21 : Ent := .bin .neq (.chan (some 1048589)) (.chan (some 1048589)) (.bool false)
theorem edFix0e21_ok (R : Nat → Int) (hR : ∀ j, 0 ≤ R j ∧ R j ≤ 255) (n0 : Nat) (hk : edFix0K R n0) : @EntOK (edFixV R hR n0) Try.prog edFix0e21 := by
  letI : Env := (edFixV R hR n0)
  obtain ⟨hb, k0, _⟩ := hk; have rb1048588 := hR 1048588; have rb1048589 := hR 1048589; exact entCmp (k := .u8) (a := (R 1048589)) (b := (R 1048589)) rfl rfl (by show some (((R 1048589) : Int) != (R 1048589)) = some false; rw [bne_eq_false_iff_eq.2 (by first | omega | (simp only [sumVal, oct.sumF, oct.F, oct.ws]; omega))])
abbrev edFix0L : List Ent := edFixs4 :: edFix0e5 :: edFix0e6 :: edFix0e7 :: edFix0e8 :: edFix0e9 :: edFix0e10 :: edFix0e11 :: edFix0e12 :: edFix0e13 :: edFix0e14 :: edFix0e15 :: edFix0e16 :: edFix0e17 :: edFix0e18 :: edFix0e19 :: edFix0e20 :: edFix0e21 :: edFixG
theorem edFix0 (w : World) (R : Nat → Int) (hR : ∀ j, 0 ≤ R j ∧ R j ≤ 255) (A0 : Addr) (n0 cp0 : Nat) (w0 : RowIn R 1048576 w A0 n0 cp0) (hn : n0 ≤ 70000) (hm : 1 ≤ n0) (hx : n0 = 14) (k0 : ¬ ((((R 1048588) * 256) + (R 1048589)) < 1536)) : Calls Try.prog 4 #[.slice (some A0) n0 cp0] w (fun e w' => e = .returned (.bool true) ∧ Only [] w w') := by
  letI : Env := (edFixV R hR n0)
  have hb : edFixB n0 := hx
  have hk : edFix0K R n0 := ⟨hb, k0, trivial⟩
  exact edFix_run w R hR A0 n0 cp0 w0 hn hm hx 14 (by omega) edFix0L (ac (edFixs4_ok R hR n0 hb k0) (ac (edFix0e5_ok R hR n0 hk) (ac (edFix0e6_ok R hR n0 hk) (ac (edFix0e7_ok R hR n0 hk) (ac (edFix0e8_ok R hR n0 hk) (ac (edFix0e9_ok R hR n0 hk) (ac (edFix0e10_ok R hR n0 hk) (ac (edFix0e11_ok R hR n0 hk) (ac (edFix0e12_ok R hR n0 hk) (ac (edFix0e13_ok R hR n0 hk) (ac (edFix0e14_ok R hR n0 hk) (ac (edFix0e15_ok R hR n0 hk) (ac (edFix0e16_ok R hR n0 hk) (ac (edFix0e17_ok R hR n0 hk) (ac (edFix0e18_ok R hR n0 hk) (ac (edFix0e19_ok R hR n0 hk) (ac (edFix0e20_ok R hR n0 hk) (ac (edFix0e21_ok R hR n0 hk) (edFixG_ok R hR n0 hb))))))))))))))))))) (by kernel_rfl)
abbrev edFix1K (R : Nat → Int) (n0 : Nat) : Prop := edFixB n0 ∧ ((((R 1048588) * 256) + (R 1048589)) < 1536) ∧ True
def edFix1e5 : Ent := .bin .neq (.chan (some 1048576)) (.chan (some 1048576)) (.bool false)
theorem edFix1e5_ok (R : Nat → Int) (hR : ∀ j, 0 ≤ R j ∧ R j ≤ 255) (n0 : Nat) (hk : edFix1K R n0) : @EntOK (edFixV R hR n0) Try.prog edFix1e5 := by
  letI : Env := (edFixV R hR n0)
  obtain ⟨hb, k0, _⟩ := hk; have rb1048576 := hR 1048576; have rb1048588 := hR 1048588; have rb1048589 := hR 1048589; exact entCmp (k := .u8) (a := (R 1048576)) (b := (R 1048576)) rfl rfl (by show some (((R 1048576) : Int) != (R 1048576)) = some false; rw [bne_eq_false_iff_eq.2 (by first | omega | (simp only [sumVal, oct.sumF, oct.F, oct.ws]; omega))])
def edFix1e6 : Ent := .bin .neq (.chan (some 1048577)) (.chan (some 1048577)) (.bool false)
theorem edFix1e6_ok (R : Nat → Int) (hR : ∀ j, 0 ≤ R j ∧ R j ≤ 255) (n0 : Nat) (hk : edFix1K R n0) : @EntOK (edFixV R hR n0) Try.prog edFix1e6 := by
  letI : Env := (edFixV R hR n0)
  obtain ⟨hb, k0, _⟩ := hk; have rb1048577 := hR 1048577; have rb1048588 := hR 1048588; have rb1048589 := hR 1048589; exact entCmp (k := .u8) (a := (R 1048577)) (b := (R 1048577)) rfl rfl (by show some (((R 1048577) : Int) != (R 1048577)) = some false; rw [bne_eq_false_iff_eq.2 (by first | omega | (simp only [sumVal, oct.sumF, oct.F, oct.ws]; omega))])
def edFix1e7 : Ent := .bin .neq (.chan (some 1048578)) (.chan (some 1048578)) (.bool false)
theorem edFix1e7_ok (R : Nat → Int) (hR : ∀ j, 0 ≤ R j ∧ R j ≤ 255) (n0 : Nat) (hk : edFix1K R n0) : @EntOK (edFixV R hR n0) Try.prog edFix1e7 := by
  letI : Env := (edFixV R hR n0)
  obtain ⟨hb, k0, _⟩ := hk; have rb1048578 := hR 1048578; have rb1048588 := hR 1048588; have rb1048589 := hR 1048589; exact entCmp (k := .u8) (a := (R 1048578)) (b := (R 1048578)) rfl rfl (by show some (((R 1048578) : Int) != (R 1048578)) = some false; rw [bne_eq_false_iff_eq.2 (by first | omega | (simp only [sumVal, oct.sumF, oct.F, oct.ws]; omega))])
def edFix1e8 : Ent := .bin .neq (.chan (some 1048579)) (.chan (some 1048579)) (.bool false)
theorem edFix1e8_ok (R : Nat → Int) (hR : ∀ j, 0 ≤ R j ∧ R j ≤ 255) (n0 : Nat) (hk : edFix1K R n0) : @EntOK (edFixV R hR n0) Try.prog edFix1e8 := by
  letI : Env := (edFixV R hR n0)
  obtain ⟨hb, k0, _⟩ := hk; have rb1048579 := hR 1048579; have rb1048588 := hR 1048588; have rb1048589 := hR 1048589; exact entCmp (k := .u8) (a := (R 1048579)) (b := (R 1048579)) rfl rfl (by show some (((R 1048579) : Int) != (R 1048579)) = some false; rw [bne_eq_false_iff_eq.2 (by first | omega | (simp only [sumVal, oct.sumF, oct.F, oct.ws]; omega))])
def edFix1e9 : Ent := .bin .neq (.chan (some 1048580)) (.chan (some 1048580)) (.bool false)
theorem edFix1e9_ok (R : Nat → Int) (hR : ∀ j, 0 ≤ R j ∧ R j ≤ 255) (n0 : Nat) (hk : edFix1K R n0) : @EntOK (edFixV R hR n0) Try.prog edFix1e9 := by
  letI : Env := (edFixV R hR n0)
  obtain ⟨hb, k0, _⟩ := hk; have rb1048580 := hR 1048580; have rb1048588 := hR 1048588; have rb1048589 := hR 1048589; exact entCmp (k := .u8) (a := (R 1048580)) (b := (R 1048580)) rfl rfl (by show some (((R 1048580) : Int) != (R 1048580)) = some false; rw [bne_eq_false_iff_eq.2 (by first | omega | (simp only [sumVal, oct.sumF, oct.F, oct.ws]; omega))])
def edFix1e10 : Ent := .bin .neq (.chan (some 1048581)) (.chan (some 1048581)) (.bool false)
theorem edFix1e10_ok (R : Nat → Int) (hR : ∀ j, 0 ≤ R j ∧ R j ≤ 255) (n0 : Nat) (hk : edFix1K R n0) : @EntOK (edFixV R hR n0) Try.prog edFix1e10 := by
  letI : Env := (edFixV R hR n0)
  obtain ⟨hb, k0, _⟩ := hk; have rb1048581 := hR 1048581; have rb1048588 := hR 1048588; have rb1048589 := hR 1048589; exact entCmp (k := .u8) (a := (R 1048581)) (b := (R 1048581)) rfl rfl (by show some (((R 1048581) : Int) != (R 1048581)) = some false; rw [bne_eq_false_iff_eq.2 (by first | omega | (simp only [sumVal, oct.sumF, oct.F, oct.ws]; omega))])
def edFix1e11 : Ent := .bin .neq (.chan (some 1048582)) (.chan (some 1048582)) (.bool false)
theorem edFix1e11_ok (R : Nat → Int) (hR : ∀ j, 0 ≤ R j ∧ R j ≤ 255) (n0 : Nat) (hk : edFix1K R n0) : @EntOK (edFixV R hR n0) Try.prog edFix1e11 := by
  letI : Env := (edFixV R hR n0)
  obtain ⟨hb, k0, _⟩ := hk; have rb1048582 := hR 1048582; have rb1048588 := hR 1048588; have rb1048589 := hR 1048589; exact entCmp (k := .u8) (a := (R 1048582)) (b := (R 1048582)) rfl rfl (by show some (((R 1048582) : Int) != (R 1048582)) = some false; rw [bne_eq_false_iff_eq.2 (by first | omega | (simp only [sumVal, oct.sumF, oct.F, oct.ws]; omega))])
def edFix1e12 : Ent := .bin .neq (.chan (some 1048583)) (.chan (some 1048583)) (.bool false)
theorem edFix1e12_ok (R : Nat → Int) (hR : ∀ j, 0 ≤ R j ∧ R j ≤ 255) (n0 : Nat) (hk : edFix1K R n0) : @EntOK (edFixV R hR n0) Try.prog edFix1e12 := by
  letI : Env := (edFixV R hR n0)
  obtain ⟨hb, k0, _⟩ := hk; have rb1048583 := hR 1048583; have rb1048588 := hR 1048588; have rb1048589 := hR 1048589; exact entCmp (k := .u8) (a := (R 1048583)) (b := (R 1048583)) rfl rfl (by show some (((R 1048583) : Int) != (R 1048583)) = some false; rw [bne_eq_false_iff_eq.2 (by first | omega | (simp only [sumVal, oct.sumF, oct.F, oct.ws]; omega))])
def edFix1e13 : Ent := .bin .neq (.chan (some 1048584)) (.chan (some 1048584)) (.bool false)
theorem edFix1e13_ok (R : Nat → Int) (hR : ∀ j, 0 ≤ R j ∧ R j ≤ 255) (n0 : Nat) (hk : edFix1K R n0) : @EntOK (edFixV R hR n0) Try.prog edFix1e13 := by
  letI : Env := (edFixV R hR n0)
  obtain ⟨hb, k0, _⟩ := hk; have rb1048584 := hR 1048584; have rb1048588 := hR 1048588; have rb1048589 := hR 1048589; exact entCmp (k := .u8) (a := (R 1048584)) (b := (R 1048584)) rfl rfl (by show some (((R 1048584) : Int) != (R 1048584)) = some false; rw [bne_eq_false_iff_eq.2 (by first | omega | (simp only [sumVal, oct.sumF, oct.F, oct.ws]; omega))])
def edFix1e14 : Ent := .bin .neq (.chan (some 1048585)) (.chan (some 1048585)) (.bool false)
theorem edFix1e14_ok (R : Nat → Int) (hR : ∀ j, 0 ≤ R j ∧ R j ≤ 255) (n0 : Nat) (hk : edFix1K R n0) : @EntOK (edFixV R hR n0) Try.prog edFix1e14 := by
  letI : Env := (edFixV R hR n0)
  obtain ⟨hb, k0, _⟩ := hk; have rb1048585 := hR 1048585; have rb1048588 := hR 1048588; have rb1048589 := hR 1048589; exact entCmp (k := .u8) (a := (R 1048585)) (b := (R 1048585)) rfl rfl (by show some (((R 1048585) : Int) != (R 1048585)) = some false; rw [bne_eq_false_iff_eq.2 (by first | omega | (simp only [sumVal, oct.sumF, oct.F, oct.ws]; omega))])
def edFix1e15 : Ent := .bin .neq (.chan (some 1048586)) (.chan (some 1048586)) (.bool false)
theorem edFix1e15_ok (R : Nat → Int) (hR : ∀ j, 0 ≤ R j ∧ R j ≤ 255) (n0 : Nat) (hk : edFix1K R n0) : @EntOK (edFixV R hR n0) Try.prog edFix1e15 := by
  letI : Env := (edFixV R hR n0)
  obtain ⟨hb, k0, _⟩ := hk; have rb1048586 := hR 1048586; have rb1048588 := hR 1048588; have rb1048589 := hR 1048589; exact entCmp (k := .u8) (a := (R 1048586)) (b := (R 1048586)) rfl rfl (by show some (((R 1048586) : Int) != (R 1048586)) = some false; rw [bne_eq_false_iff_eq.2 (by first | omega | (simp only [sumVal, oct.sumF, oct.F, oct.ws]; omega))])
def edFix1e16 : Ent := .bin .neq (.chan (some 1048587)) (.chan (some 1048587)) (.bool false)
theorem edFix1e16_ok (R : Nat → Int) (hR : ∀ j, 0 ≤ R j ∧ R j ≤ 255) (n0 : Nat) (hk : edFix1K R n0) : @EntOK (edFixV R hR n0) Try.prog edFix1e16 := by
  letI : Env := (edFixV R hR n0)
  obtain ⟨hb, k0, _⟩ := hk; have rb1048587 := hR 1048587; have rb1048588 := hR 1048588; have rb1048589 := hR 1048589; exact entCmp (k := .u8) (a := (R 1048587)) (b := (R 1048587)) rfl rfl (by show some (((R 1048587) : Int) != (R 1048587)) = some false; rw [bne_eq_false_iff_eq.2 (by first | omega | (simp only [sumVal, oct.sumF, oct.F, oct.ws]; omega))])
def edFix1e17 : Ent := .bin .neq (.chan (some 1048588)) (.chan (some 1048588)) (.bool false)
theorem edFix1e17_ok (R : Nat → Int) (hR : ∀ j, 0 ≤ R j ∧ R j ≤ 255) (n0 : Nat) (hk : edFix1K R n0) : @EntOK (edFixV R hR n0) Try.prog edFix1e17 := by
  letI : Env := (edFixV R hR n0)
  obtain ⟨hb, k0, _⟩ := hk; have rb1048588 := hR 1048588; have rb1048589 := hR 1048589; exact entCmp (k := .u8) (a := (R 1048588)) (b := (R 1048588)) rfl rfl (by show some (((R 1048588) : Int) != (R 1048588)) = some false; rw [bne_eq_false_iff_eq.2 (by first | omega | (simp only [sumVal, oct.sumF, oct.F, oct.ws]; omega))])
def edFix1e18 : Ent := .bin .neq (.chan (some 1048589)) (.chan (some 1048589)) (.bool false)
theorem edFix1e18_ok (R : Nat → Int) (hR : ∀ j, 0 ≤ R j ∧ R j ≤ 255) (n0 : Nat) (hk : edFix1K R n0) : @EntOK (edFixV R hR n0) Try.prog edFix1e18 := by
  letI : Env := (edFixV R hR n0)
  obtain ⟨hb, k0, _⟩ := hk; have rb1048588 := hR 1048588; have rb1048589 := hR 1048589; exact entCmp (k := .u8) (a := (R 1048589)) (b := (R 1048589)) rfl rfl (by show some (((R 1048589) : Int) != (R 1048589)) = some false; rw [bne_eq_false_iff_eq.2 (by first | omega | (simp only [sumVal, oct.sumF, oct.F, oct.ws]; omega))])
abbrev edFix1L : List Ent := edFixs5 :: edFix1e5 :: edFix1e6 :: edFix1e7 :: edFix1e8 :: edFix1e9 :: edFix1e10 :: edFix1e11 :: edFix1e12 :: edFix1e13 :: edFix1e14 :: edFix1e15 :: edFix1e16 :: edFix1e17 :: edFix1e18 :: edFixG
theorem edFix1 (w : World) (R : Nat → Int) (hR : ∀ j, 0 ≤ R j ∧ R j ≤ 255) (A0 : Addr) (n0 cp0 : Nat) (w0 : RowIn R 1048576 w A0 n0 cp0) (hn : n0 ≤ 70000) (hm : 1 ≤ n0) (hx : n0 = 14) (k0 : (((R 1048588) * 256) + (R 1048589)) < 1536) : Calls Try.prog 4 #[.slice (some A0) n0 cp0] w (fun e w' => e = .returned (.bool true) ∧ Only [] w w') := by
  letI : Env := (edFixV R hR n0)
  have hb : edFixB n0 := hx
  have hk : edFix1K R n0 := ⟨hb, k0, trivial⟩
  exact edFix_run w R hR A0 n0 cp0 w0 hn hm hx 14 (by omega) edFix1L (ac (edFixs5_ok R hR n0 hb k0) (ac (edFix1e5_ok R hR n0 hk) (ac (edFix1e6_ok R hR n0 hk) (ac (edFix1e7_ok R hR n0 hk) (ac (edFix1e8_ok R hR n0 hk) (ac (edFix1e9_ok R hR n0 hk) (ac (edFix1e10_ok R hR n0 hk) (ac (edFix1e11_ok R hR n0 hk) (ac (edFix1e12_ok R hR n0 hk) (ac (edFix1e13_ok R hR n0 hk) (ac (edFix1e14_ok R hR n0 hk) (ac (edFix1e15_ok R hR n0 hk) (ac (edFix1e16_ok R hR n0 hk) (ac (edFix1e17_ok R hR n0 hk) (ac (edFix1e18_ok R hR n0 hk) (edFixG_ok R hR n0 hb)))))))))))))))) (by kernel_rfl)
theorem EtherDecodesFix (w : World) (R : Nat → Int) (hR : ∀ j, 0 ≤ R j ∧ R j ≤ 255) (A0 : Addr) (n0 cp0 : Nat) (w0 : RowIn R 1048576 w A0 n0 cp0) (hn : n0 ≤ 70000) (hm : 1 ≤ n0) (hx : n0 = 14) : Calls Try.prog 4 #[.slice (some A0) n0 cp0] w (fun e w' => e = .returned (.bool true) ∧ Only [] w w') := by
  have rb1048588 := hR 1048588
  have rb1048589 := hR 1048589
  by_cases h1 : (((R 1048588) * 256) + (R 1048589)) < 1536
  ·
    exact edFix1 w R hR A0 n0 cp0 w0 hn hm hx h1
  ·
    exact edFix0 w R hR A0 n0 cp0 w0 hn hm hx h1
abbrev edNilV (R : Nat → Int) (hR : ∀ j, 0 ≤ R j ∧ R j ≤ 255)  : Env := envR [] R hR
abbrev edNilB  : Prop := True
abbrev edNilG : List Ent := []
theorem edNilG_ok (R : Nat → Int) (hR : ∀ j, 0 ≤ R j ∧ R j ≤ 255)  (hb : edNilB ) : ∀ e ∈ edNilG, @EntOK (edNilV R hR ) Try.prog e := by
  letI : Env := edNilV R hR 
  exact allENil
abbrev edNil0L : List Ent := edNilG
set_option maxHeartbeats 4000000 in
theorem edNil0 (w : World) (R : Nat → Int) (hR : ∀ j, 0 ≤ R j ∧ R j ≤ 255)   : Calls Try.prog 4 #[.slice none 0 0] w (fun e w' => e = .returned (.bool true) ∧ Only [] w w') := by
  letI : Env := (edNilV R hR )
  have hb : edNilB  := trivial
  have hents : ∀ e ∈ (edNil0L : List Ent), EntOK Try.prog e := (edNilG_ok R hR  hb)
  have hsp : SpOK Try.prog (spKnown 15) := (spKnown_ok knownBody known)
  refine lawR (tab := tabG Try.prog edNil0L) (sp := (spKnown 15)) hsp (tabG_ok hents) (f := 300) (args := [.slice none 0 0]) (args' := [.slice none 0 0]) (c0 := 0) (h0 := .lf) (β0 := fun _ => none) (w := w) (by kernel_rfl) (Sim.nothing Try.prog w.heap.size w) (fun i hi => ?_) ?_
  · rfl
  · exact (PW.cons (VR.of_flat 6 _ rfl) (PW.nil _))
theorem EtherDecodesNil (w : World) (R : Nat → Int) (hR : ∀ j, 0 ≤ R j ∧ R j ≤ 255)  : Calls Try.prog 4 #[.slice none 0 0] w (fun e w' => e = .returned (.bool true) ∧ Only [] w w') := by
  exact edNil0 w R hR  
abbrev edEmpV (R : Nat → Int) (hR : ∀ j, 0 ≤ R j ∧ R j ≤ 255)  : Env := envR [] R hR
abbrev edEmpB  : Prop := True
abbrev edEmpG : List Ent := []
theorem edEmpG_ok (R : Nat → Int) (hR : ∀ j, 0 ≤ R j ∧ R j ≤ 255)  (hb : edEmpB ) : ∀ e ∈ edEmpG, @EntOK (edEmpV R hR ) Try.prog e := by
  letI : Env := edEmpV R hR 
  exact allENil
abbrev edEmp0L : List Ent := edEmpG
set_option maxHeartbeats 4000000 in
theorem edEmp0 (w : World) (R : Nat → Int) (hR : ∀ j, 0 ≤ R j ∧ R j ≤ 255) (A0 : Addr) (cp0 : Nat) (hs : A0.spot = none ∨ cp0 = 0)  : Calls Try.prog 4 #[.slice (some A0) 0 cp0] w (fun e w' => e = .returned (.bool true) ∧ Only [] w w') := by
  letI : Env := (edEmpV R hR )
  have hb : edEmpB  := trivial
  have hents : ∀ e ∈ (edEmp0L : List Ent), EntOK Try.prog e := (edEmpG_ok R hR  hb)
  have hsp : SpOK Try.prog (spKnown 15) := (spKnown_ok knownBody known)
  refine lawR (tab := tabG Try.prog edEmp0L) (sp := (spKnown 15)) hsp (tabG_ok hents) (f := 300) (args := [.slice (some ⟨0, 0, some 0⟩) 0 0]) (args' := [.slice (some A0) 0 cp0]) (c0 := 1) (h0 := .lf) (β0 := mp1 ⟨A0.block, A0.off, 0, 0, 1⟩) (w := w) (by kernel_rfl) (⟨fun i o hi => (by rw [Tr.get_lf] at hi; cases hi), fun i j o o' I J hi => (by rw [Tr.get_lf] at hi; cases hi)⟩) (fun i hi => ?_) ?_
  · match i, hi with
    | i + 1, _ => rfl
  · exact (PW.cons (rowNone_vr rfl hs) (PW.nil _))
theorem EtherDecodesEmp (w : World) (R : Nat → Int) (hR : ∀ j, 0 ≤ R j ∧ R j ≤ 255) (A0 : Addr) (cp0 : Nat) (hs : A0.spot = none ∨ cp0 = 0) : Calls Try.prog 4 #[.slice (some A0) 0 cp0] w (fun e w' => e = .returned (.bool true) ∧ Only [] w w') := by
  exact edEmp0 w R hR A0 cp0 hs 
abbrev edBigV (R : Nat → Int) (hR : ∀ j, 0 ≤ R j ∧ R j ≤ 255) (A0 : Option Addr) (n0 cp0 : Nat) : Env := envR [.slice A0 n0 cp0, .int .i64 (n0 : Int)] R hR
abbrev edBigB (A0 : Option Addr) (n0 cp0 : Nat) : Prop := 2000 < n0
def edBigs0 : Ent := .bin .gtr (.chan (some 1)) (.int .i64 2000) (.bool true)
theorem edBigs0_ok (R : Nat → Int) (hR : ∀ j, 0 ≤ R j ∧ R j ≤ 255) (A0 : Option Addr) (n0 cp0 : Nat) (hb : edBigB A0 n0 cp0) (hc : (n0 : Int) > 2000) : @EntOK (edBigV R hR A0 n0 cp0) Try.prog edBigs0 := by
  letI : Env := edBigV R hR A0 n0 cp0
  exact entCmp (k := .i64) (a := (n0 : Int)) (b := 2000) rfl rfl (by show some (decide (((n0 : Int) : Int) > 2000)) = some true; rw [decide_eq_true (by first | omega | (simp only [sumVal, oct.sumF, oct.F, oct.ws]; omega))])
abbrev edBigG : List Ent := []
theorem edBigG_ok (R : Nat → Int) (hR : ∀ j, 0 ≤ R j ∧ R j ≤ 255) (A0 : Option Addr) (n0 cp0 : Nat) (hb : edBigB A0 n0 cp0) : ∀ e ∈ edBigG, @EntOK (edBigV R hR A0 n0 cp0) Try.prog e := by
  letI : Env := edBigV R hR A0 n0 cp0
  exact allENil
abbrev edBig0K (R : Nat → Int) (A0 : Option Addr) (n0 cp0 : Nat) : Prop := edBigB A0 n0 cp0 ∧ ((n0 : Int) > 2000) ∧ True
def edBig0e0 : Ent := .len false (.chan (some 1000)) (.chan (some 1))
theorem edBig0e0_ok (R : Nat → Int) (hR : ∀ j, 0 ≤ R j ∧ R j ≤ 255) (A0 : Option Addr) (n0 cp0 : Nat) (hk : edBig0K R A0 n0 cp0) : @EntOK (edBigV R hR A0 n0 cp0) Try.prog edBig0e0 := by
  letI : Env := (edBigV R hR A0 n0 cp0)
  obtain ⟨hb, k0, _⟩ := hk; exact entLen (i := 1000) (j := 1) rfl rfl
abbrev edBig0L : List Ent := edBig0e0 :: edBigs0 :: edBigG
set_option maxHeartbeats 4000000 in
theorem edBig0 (w : World) (R : Nat → Int) (hR : ∀ j, 0 ≤ R j ∧ R j ≤ 255) (A0 : Option Addr) (n0 cp0 : Nat) (hn : 2000 < n0) (k0 : (n0 : Int) > 2000) : Calls Try.prog 4 #[.slice A0 n0 cp0] w (fun e w' => e = .returned (.bool true) ∧ Only [] w w') := by
  letI : Env := (edBigV R hR A0 n0 cp0)
  have hb : edBigB A0 n0 cp0 := hn
  have hk : edBig0K R A0 n0 cp0 := ⟨hb, k0, trivial⟩
  have hents : ∀ e ∈ (edBig0L : List Ent), EntOK Try.prog e := (ac (edBig0e0_ok R hR A0 n0 cp0 hk) (ac (edBigs0_ok R hR A0 n0 cp0 hb k0) (edBigG_ok R hR A0 n0 cp0 hb)))
  have hsp : SpOK Try.prog (spKnown 15) := (spKnown_ok knownBody known)
  refine lawR (tab := tabG Try.prog edBig0L) (sp := (spKnown 15)) hsp (tabG_ok hents) (f := 300) (args := [.chan (some 1000)]) (args' := [.slice A0 n0 cp0]) (c0 := 0) (h0 := .lf) (β0 := fun _ => none) (w := w) (by kernel_rfl) (Sim.nothing Try.prog w.heap.size w) (fun i hi => ?_) ?_
  · rfl
  · exact (PW.cons (.opq 1000 rfl (fun b h => by cases h)) (PW.nil _))
theorem EtherDecodesBig (w : World) (R : Nat → Int) (hR : ∀ j, 0 ≤ R j ∧ R j ≤ 255) (A0 : Option Addr) (n0 cp0 : Nat) (hn : 2000 < n0) : Calls Try.prog 4 #[.slice A0 n0 cp0] w (fun e w' => e = .returned (.bool true) ∧ Only [] w w') := by
  by_cases h1 : (n0 : Int) > 2000
  ·
    exact edBig0 w R hR A0 n0 cp0 hn h1
  ·
    exfalso; omega
theorem EtherDecodesAll (w : World) (a0 : Option Addr) (len0 cap0 : Nat) (z0 : List Int) (h0 : IsRow .u8 w a0 len0 cap0 z0) : Calls Try.prog 4 #[.slice a0 len0 cap0] w (fun e w' => e = .returned (.bool true) ∧ Only [] w w') := by
  by_cases hb : 2000 < len0
  · exact EtherDecodesBig w (fun _ => 0) (fun _ => ⟨by decide, by decide⟩) a0 len0 cap0 hb
  cases a0 with
  | none =>
    rcases h0 with ⟨_, rfl, rfl, _⟩ | ⟨x, hx, _⟩
    · exact EtherDecodesNil w (fun _ => 0) (fun _ => ⟨by decide, by decide⟩)
    · cases hx
  | some A =>
    by_cases hz : len0 = 0
    · subst hz
      exact EtherDecodesEmp w (fun _ => 0) (fun _ => ⟨by decide, by decide⟩) A cap0 (isRow_spot h0)
    · have hw := rowIn_of (R := rowR 1048576 z0) h0 (by omega) (fun j hj => by unfold rowR; rw [Nat.add_sub_cancel_left])
      by_cases hx : len0 = 14
      · exact EtherDecodesFix w (rowR 1048576 z0) (rowR_bd (isRow_wf h0)) A len0 cap0 hw (by omega) (by omega) hx
      · exact EtherDecodesRow w (rowR 1048576 z0) (rowR_bd (isRow_wf h0)) A len0 cap0 hw (by omega) (by omega) hx
end Go.Proofs.Ytiihhngddmboaaa.ev
