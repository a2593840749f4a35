/-
  ICMPFlows, by a run of each path over rows of bytes that are not looked into. Conditions: none.
-/
import Derived.Test.YtekanilgeigddaaEvRl
import Derived.Test.YtekanilgeigddaaEvP9
import Derived.Test.YtekanilgeigddaaHlp9
import Derived.Test.YtekanilgeigddaaEvV
import Derived.Test.YtekanilgeigddaaEvBd
import Derived.KernelRfl
import Derived.DeepKeys
namespace Go.Proofs.Ytekanilgeigddaa.ev
set_option maxRecDepth 1000000
set_option linter.unusedVariables false
set_option linter.unusedSimpArgs false
open Go.ChangeShapes Go.WideShapes Go.ChangeAt Go.RowKit Go.IntWalk Go.Lib
theorem ac [Env] {P : Program} {e : Ent} {l : List Ent} (h : EntOK P e) (k : ∀ x ∈ l, EntOK P x) : ∀ x ∈ e :: l, EntOK P x := allECons h k
theorem helpC : HelpC Try.prog ⟨13, 10, 14, 5⟩ :=
  ⟨hasBody_of (by kernel_rfl), hasBody_of (by kernel_rfl), hasBody_of (by kernel_rfl), fun w A B n m c d x y hx hy hn hm => hlp.same w A B n m c d x y hx hy hn hm, fun w A n c l hl hc hn => hlp.roomy w A n c l hl hc hn, fun w A B n cap d l hx hc hy hn => hlp.stands w A B n cap d l hx hc hy hn⟩
theorem eqFlow (a0 a1 a2 a3 a4 b0 b1 b2 b3 b4 : Int) (h0 : a0 = b0) (h1 : a1 = b1) (h2 : a2 = b2) (h3 : a3 = b3) (h4 : a4 = b4) (o1 o2 : Operand) (w : World) :
    (do eqGuard .eql 50 o1 o2 (.agg #[.int .i64 a0, .int .u32 a1, .int .i64 a2, .int .u32 a3, .int .i64 a4]) (.agg #[.int .i64 b0, .int .u32 b1, .int .i64 b2, .int .u32 b3, .int .i64 b4]); Go.binOp .eql 50 (.agg #[.int .i64 a0, .int .u32 a1, .int .i64 a2, .int .u32 a3, .int .i64 a4]) (.agg #[.int .i64 b0, .int .u32 b1, .int .i64 b2, .int .u32 b3, .int .i64 b4]) : Sem Value).run Try.prog w = .ok (.bool true) w := by
  subst h0 h1 h2 h3 h4
  go_simp
abbrev qfRowV (R : Nat → Int) (hR : ∀ j, 0 ≤ R j ∧ R j ≤ 255) (n0 : Nat) : Env := envR [.int .i64 (n0 : Int), .int .i64 ((n0 : Int) - 1), .int .u32 (R 1048576), .int .i64 (R 1048576), .int .i64 ((n0 : Int) - 6), .int .i64 ((n0 : Int) - 8), .int .u32 (R 1048582), .int .u32 ((R 1048582) * 256), .int .u32 (R 1048583), .int .u32 (((R 1048582) * 256) + (R 1048583)), .int .i64 (((R 1048582) * 256) + (R 1048583)), .int .i64 ((((R 1048582) * 256) + (R 1048583)) % 8192), .int .i64 ((n0 : Int) - 9), .int .u32 (R 1048584), .int .i64 (R 1048584), .int .i64 ((n0 : Int) - 10), .int .u32 (R 1048585), .int .i64 (R 1048585), .int .i64 ((n0 : Int) - 12), .int .u32 (R 1048586), .int .u32 ((R 1048586) * 256), .int .u32 (R 1048587), .int .u32 (((R 1048586) * 256) + (R 1048587)), .int .i64 (((R 1048586) * 256) + (R 1048587)), .int .i64 ((n0 : Int) - 16), .int .u32 (R 1048588), .int .u32 ((R 1048588) * 256), .int .u32 (R 1048589), .int .u32 (((R 1048588) * 256) + (R 1048589)), .int .u32 ((((R 1048588) * 256) + (R 1048589)) * 256), .int .u32 (R 1048590), .int .u32 (((((R 1048588) * 256) + (R 1048589)) * 256) + (R 1048590)), .int .u32 ((((((R 1048588) * 256) + (R 1048589)) * 256) + (R 1048590)) * 256), .int .u32 (R 1048591), .int .u32 (((((((R 1048588) * 256) + (R 1048589)) * 256) + (R 1048590)) * 256) + (R 1048591)), .int .i64 ((n0 : Int) - 20), .int .u32 (R 1048592), .int .u32 ((R 1048592) * 256), .int .u32 (R 1048593), .int .u32 (((R 1048592) * 256) + (R 1048593)), .int .u32 ((((R 1048592) * 256) + (R 1048593)) * 256), .int .u32 (R 1048594), .int .u32 (((((R 1048592) * 256) + (R 1048593)) * 256) + (R 1048594)), .int .u32 ((((((R 1048592) * 256) + (R 1048593)) * 256) + (R 1048594)) * 256), .int .u32 (R 1048595), .int .u32 (((((((R 1048592) * 256) + (R 1048593)) * 256) + (R 1048594)) * 256) + (R 1048595)), .int .i64 ((R 1048576) % 16), .int .i64 ((R 1048576) / 16), .int .u8 ((R 1048576) / 16), .int .u32 ((R 1048588) * 16777216), .int .u32 ((R 1048589) * 65536), .int .u32 (((R 1048588) * 16777216) + ((R 1048589) * 65536)), .int .u32 ((R 1048590) * 256), .int .u32 ((((R 1048588) * 16777216) + ((R 1048589) * 65536)) + ((R 1048590) * 256)), .int .u32 (((((R 1048588) * 16777216) + ((R 1048589) * 65536)) + ((R 1048590) * 256)) + (R 1048591)), .int .u32 ((R 1048592) * 16777216), .int .u32 ((R 1048593) * 65536), .int .u32 (((R 1048592) * 16777216) + ((R 1048593) * 65536)), .int .u32 ((R 1048594) * 256), .int .u32 ((((R 1048592) * 16777216) + ((R 1048593) * 65536)) + ((R 1048594) * 256)), .int .u32 (((((R 1048592) * 16777216) + ((R 1048593) * 65536)) + ((R 1048594) * 256)) + (R 1048595)), .int .i64 ((n0 : Int) - 22), .int .u32 (R 1048596), .int .u32 ((R 1048596) * 256), .int .u32 (R 1048597), .int .u32 (((R 1048596) * 256) + (R 1048597)), .int .i64 (((R 1048596) * 256) + (R 1048597)), .int .i64 ((n0 : Int) - 24), .int .u32 (R 1048598), .int .u32 ((R 1048598) * 256), .int .u32 (R 1048599), .int .u32 (((R 1048598) * 256) + (R 1048599)), .int .i64 (((R 1048598) * 256) + (R 1048599)), .int .i64 (R 1048582), .int .i64 ((R 1048582) * 256), .int .i64 (R 1048583), .int .i64 (R 1048596), .int .i64 ((R 1048596) * 256), .int .i64 (R 1048597), .int .i64 (R 1048598), .int .i64 ((R 1048598) * 256), .int .i64 (R 1048599), .int .i64 ((n0 : Int) - 26), .int .u32 (R 1048600), .int .u32 ((R 1048600) * 256), .int .u32 (R 1048601), .int .u32 (((R 1048600) * 256) + (R 1048601)), .int .i64 (((R 1048600) * 256) + (R 1048601)), .int .i64 ((n0 : Int) - 28), .int .u32 (R 1048602), .int .u32 ((R 1048602) * 256), .int .u32 (R 1048603), .int .u32 (((R 1048602) * 256) + (R 1048603)), .int .i64 (((R 1048602) * 256) + (R 1048603)), .int .i64 (R 1048600), .int .i64 ((R 1048600) * 256), .int .i64 (R 1048601), .int .i64 (R 1048602), .int .i64 ((R 1048602) * 256), .int .i64 (R 1048603), .int .i64 ((n0 : Int) - 30), .int .u32 (R 1048604), .int .u32 ((R 1048604) * 256), .int .u32 (R 1048605), .int .u32 (((R 1048604) * 256) + (R 1048605)), .int .i64 (((R 1048604) * 256) + (R 1048605)), .int .i64 ((n0 : Int) - 32), .int .u32 (R 1048606), .int .u32 ((R 1048606) * 256), .int .u32 (R 1048607), .int .u32 (((R 1048606) * 256) + (R 1048607)), .int .i64 (((R 1048606) * 256) + (R 1048607)), .int .i64 (R 1048604), .int .i64 ((R 1048604) * 256), .int .i64 (R 1048605), .int .i64 (R 1048606), .int .i64 ((R 1048606) * 256), .int .i64 (R 1048607), .int .i64 ((n0 : Int) - 34), .int .u32 (R 1048608), .int .u32 ((R 1048608) * 256), .int .u32 (R 1048609), .int .u32 (((R 1048608) * 256) + (R 1048609)), .int .i64 (((R 1048608) * 256) + (R 1048609)), .int .i64 ((n0 : Int) - 36), .int .u32 (R 1048610), .int .u32 ((R 1048610) * 256), .int .u32 (R 1048611), .int .u32 (((R 1048610) * 256) + (R 1048611)), .int .i64 (((R 1048610) * 256) + (R 1048611)), .int .i64 (R 1048608), .int .i64 ((R 1048608) * 256), .int .i64 (R 1048609), .int .i64 (R 1048610), .int .i64 ((R 1048610) * 256), .int .i64 (R 1048611), .int .i64 ((n0 : Int) - 38), .int .u32 (R 1048612), .int .u32 ((R 1048612) * 256), .int .u32 (R 1048613), .int .u32 (((R 1048612) * 256) + (R 1048613)), .int .i64 (((R 1048612) * 256) + (R 1048613)), .int .i64 ((n0 : Int) - 40), .int .u32 (R 1048614), .int .u32 ((R 1048614) * 256), .int .u32 (R 1048615), .int .u32 (((R 1048614) * 256) + (R 1048615)), .int .i64 (((R 1048614) * 256) + (R 1048615)), .int .i64 (R 1048612), .int .i64 ((R 1048612) * 256), .int .i64 (R 1048613), .int .i64 (R 1048614), .int .i64 ((R 1048614) * 256), .int .i64 (R 1048615), .int .i64 ((n0 : Int) - 42), .int .u32 (R 1048616), .int .u32 ((R 1048616) * 256), .int .u32 (R 1048617), .int .u32 (((R 1048616) * 256) + (R 1048617)), .int .i64 (((R 1048616) * 256) + (R 1048617)), .int .i64 ((n0 : Int) - 44), .int .u32 (R 1048618), .int .u32 ((R 1048618) * 256), .int .u32 (R 1048619), .int .u32 (((R 1048618) * 256) + (R 1048619)), .int .i64 (((R 1048618) * 256) + (R 1048619)), .int .i64 (R 1048616), .int .i64 ((R 1048616) * 256), .int .i64 (R 1048617), .int .i64 (R 1048618), .int .i64 ((R 1048618) * 256), .int .i64 (R 1048619), .int .i64 ((n0 : Int) - 46), .int .u32 (R 1048620), .int .u32 ((R 1048620) * 256), .int .u32 (R 1048621), .int .u32 (((R 1048620) * 256) + (R 1048621)), .int .i64 (((R 1048620) * 256) + (R 1048621)), .int .i64 ((n0 : Int) - 48), .int .u32 (R 1048622), .int .u32 ((R 1048622) * 256), .int .u32 (R 1048623), .int .u32 (((R 1048622) * 256) + (R 1048623)), .int .i64 (((R 1048622) * 256) + (R 1048623)), .int .i64 (R 1048620), .int .i64 ((R 1048620) * 256), .int .i64 (R 1048621), .int .i64 (R 1048622), .int .i64 ((R 1048622) * 256), .int .i64 (R 1048623), .int .i64 ((n0 : Int) - 50), .int .u32 (R 1048624), .int .u32 ((R 1048624) * 256), .int .u32 (R 1048625), .int .u32 (((R 1048624) * 256) + (R 1048625)), .int .i64 (((R 1048624) * 256) + (R 1048625)), .int .i64 ((n0 : Int) - 52), .int .u32 (R 1048626), .int .u32 ((R 1048626) * 256), .int .u32 (R 1048627), .int .u32 (((R 1048626) * 256) + (R 1048627)), .int .i64 (((R 1048626) * 256) + (R 1048627)), .int .i64 (R 1048624), .int .i64 ((R 1048624) * 256), .int .i64 (R 1048625), .int .i64 (R 1048626), .int .i64 ((R 1048626) * 256), .int .i64 (R 1048627), .int .i64 ((n0 : Int) - 54), .int .u32 (R 1048628), .int .u32 ((R 1048628) * 256), .int .u32 (R 1048629), .int .u32 (((R 1048628) * 256) + (R 1048629)), .int .i64 (((R 1048628) * 256) + (R 1048629)), .int .i64 ((n0 : Int) - 56), .int .u32 (R 1048630), .int .u32 ((R 1048630) * 256), .int .u32 (R 1048631), .int .u32 (((R 1048630) * 256) + (R 1048631)), .int .i64 (((R 1048630) * 256) + (R 1048631)), .int .i64 (R 1048628), .int .i64 ((R 1048628) * 256), .int .i64 (R 1048629), .int .i64 (R 1048630), .int .i64 ((R 1048630) * 256), .int .i64 (R 1048631), .int .i64 ((n0 : Int) - 58), .int .u32 (R 1048632), .int .u32 ((R 1048632) * 256), .int .u32 (R 1048633), .int .u32 (((R 1048632) * 256) + (R 1048633)), .int .i64 (((R 1048632) * 256) + (R 1048633)), .int .i64 ((n0 : Int) - 60), .int .u32 (R 1048634), .int .u32 ((R 1048634) * 256), .int .u32 (R 1048635), .int .u32 (((R 1048634) * 256) + (R 1048635)), .int .i64 (((R 1048634) * 256) + (R 1048635)), .int .i64 (R 1048632), .int .i64 ((R 1048632) * 256), .int .i64 (R 1048633), .int .i64 (R 1048634), .int .i64 ((R 1048634) * 256), .int .i64 (R 1048635), .int .i64 ((n0 : Int) - 62), .int .u32 (R 1048636), .int .u32 ((R 1048636) * 256), .int .u32 (R 1048637), .int .u32 (((R 1048636) * 256) + (R 1048637)), .int .i64 (((R 1048636) * 256) + (R 1048637)), .int .i64 ((n0 : Int) - 64), .int .u32 (R 1048638), .int .u32 ((R 1048638) * 256), .int .u32 (R 1048639), .int .u32 (((R 1048638) * 256) + (R 1048639)), .int .i64 (((R 1048638) * 256) + (R 1048639)), .int .i64 (R 1048636), .int .i64 ((R 1048636) * 256), .int .i64 (R 1048637), .int .i64 (R 1048638), .int .i64 ((R 1048638) * 256), .int .i64 (R 1048639)] R hR
abbrev qfRowB (n0 : Nat) : Prop := n0 ≤ 70000 ∧ 1 ≤ n0
def qfRows0 : Ent := .bin .gtr (.chan (some 0)) (.int .i64 4000) (.bool true)
theorem qfRows0_ok (R : Nat → Int) (hR : ∀ j, 0 ≤ R j ∧ R j ≤ 255) (n0 : Nat) (hb : qfRowB n0) (hc : (n0 : Int) > 4000) : @EntOK (qfRowV R hR n0) Try.prog qfRows0 := by
  letI : Env := qfRowV R hR n0
  exact entCmp (k := .i64) (a := (n0 : Int)) (b := 4000) rfl rfl (by show some (decide (((n0 : Int) : Int) > 4000)) = some true; rw [decide_eq_true (by omega)])
def qfRows1 : Ent := .bin .gtr (.chan (some 0)) (.int .i64 4000) (.bool false)
theorem qfRows1_ok (R : Nat → Int) (hR : ∀ j, 0 ≤ R j ∧ R j ≤ 255) (n0 : Nat) (hb : qfRowB n0) (hc : ¬ ((n0 : Int) > 4000)) : @EntOK (qfRowV R hR n0) Try.prog qfRows1 := by
  letI : Env := qfRowV R hR n0
  exact entCmp (k := .i64) (a := (n0 : Int)) (b := 4000) rfl rfl (by show some (decide (((n0 : Int) : Int) > 4000)) = some false; rw [decide_eq_false (by omega)])
def qfRows2 : Ent := .bin .gtr (.int .i64 1) (.chan (some 0)) (.bool false)
theorem qfRows2_ok (R : Nat → Int) (hR : ∀ j, 0 ≤ R j ∧ R j ≤ 255) (n0 : Nat) (hb : qfRowB n0) : @EntOK (qfRowV R hR n0) Try.prog qfRows2 := by
  letI : Env := qfRowV R hR n0
  exact entCmp (k := .i64) (a := 1) (b := (n0 : Int)) rfl rfl (by show some (decide ((1 : Int) > (n0 : Int))) = some false; rw [decide_eq_false (by omega)])
def qfRows3 : Ent := .slen 0 3 (.chan (some 1))
theorem qfRows3_ok (R : Nat → Int) (hR : ∀ j, 0 ≤ R j ∧ R j ≤ 255) (n0 : Nat) (hb : qfRowB n0) (hc : 1 ≤ n0) : @EntOK (qfRowV R hR n0) Try.prog qfRows3 := by
  letI : Env := qfRowV R hR n0
  exact entSlen (n := n0) (j := 1) (c := ((n0 : Int) - 1)) rfl rfl (by simp; try omega) (by first | exact .inl rfl | (right; omega))
def qfRows4 : Ent := .conv .u32 (.chan (some 1048576)) (.chan (some 2))
theorem qfRows4_ok (R : Nat → Int) (hR : ∀ j, 0 ≤ R j ∧ R j ≤ 255) (n0 : Nat) (hb : qfRowB n0) : @EntOK (qfRowV R hR n0) Try.prog qfRows4 := by
  letI : Env := qfRowV R hR n0
  have rb1048576 := hR 1048576; exact entConvV (k := .u32) (l := .u8) (a := (R 1048576)) (c := (R 1048576)) rfl rfl (by rw [IntWalk.u32_in _ (by omega)])
def qfRows5 : Ent := .bin .or (.int .u32 0) (.chan (some 2)) (.chan (some 2))
theorem qfRows5_ok (R : Nat → Int) (hR : ∀ j, 0 ≤ R j ∧ R j ≤ 255) (n0 : Nat) (hb : qfRowB n0) : @EntOK (qfRowV R hR n0) Try.prog qfRows5 := by
  letI : Env := qfRowV R hR n0
  have rb1048576 := hR 1048576; exact entOrV (k := .u32) (a := 0) (b := (R 1048576)) (c := (R 1048576)) rfl rfl rfl (by have h := join_u32 0 (R 1048576) 8 256 (by decide) (by omega) (by omega) (by omega) (by omega); simpa using h)
def qfRows6 : Ent := .conv .i64 (.chan (some 2)) (.chan (some 3))
theorem qfRows6_ok (R : Nat → Int) (hR : ∀ j, 0 ≤ R j ∧ R j ≤ 255) (n0 : Nat) (hb : qfRowB n0) : @EntOK (qfRowV R hR n0) Try.prog qfRows6 := by
  letI : Env := qfRowV R hR n0
  have rb1048576 := hR 1048576; exact entConvV (k := .i64) (l := .u32) (a := (R 1048576)) (c := (R 1048576)) rfl rfl (by rw [IntWalk.i64_in _ (by omega)])
def qfRows7 : Ent := .bin .gtr (.int .i64 5) (.chan (some 1)) (.bool true)
theorem qfRows7_ok (R : Nat → Int) (hR : ∀ j, 0 ≤ R j ∧ R j ≤ 255) (n0 : Nat) (hb : qfRowB n0) (hc : 5 > ((n0 : Int) - 1)) : @EntOK (qfRowV R hR n0) Try.prog qfRows7 := by
  letI : Env := qfRowV R hR n0
  exact entCmp (k := .i64) (a := 5) (b := ((n0 : Int) - 1)) rfl rfl (by show some (decide ((5 : Int) > ((n0 : Int) - 1))) = some true; rw [decide_eq_true (by omega)])
def qfRows8 : Ent := .bin .lss (.chan (some 0)) (.int .i64 20) (.bool true)
theorem qfRows8_ok (R : Nat → Int) (hR : ∀ j, 0 ≤ R j ∧ R j ≤ 255) (n0 : Nat) (hb : qfRowB n0) (hc : (n0 : Int) < 20) : @EntOK (qfRowV R hR n0) Try.prog qfRows8 := by
  letI : Env := qfRowV R hR n0
  exact entCmp (k := .i64) (a := (n0 : Int)) (b := 20) rfl rfl (by show some (decide (((n0 : Int) : Int) < 20)) = some true; rw [decide_eq_true (by omega)])
def qfRows9 : Ent := .bin .gtr (.int .i64 5) (.chan (some 1)) (.bool false)
theorem qfRows9_ok (R : Nat → Int) (hR : ∀ j, 0 ≤ R j ∧ R j ≤ 255) (n0 : Nat) (hb : qfRowB n0) (hc : ¬ (5 > ((n0 : Int) - 1))) : @EntOK (qfRowV R hR n0) Try.prog qfRows9 := by
  letI : Env := qfRowV R hR n0
  exact entCmp (k := .i64) (a := 5) (b := ((n0 : Int) - 1)) rfl rfl (by show some (decide ((5 : Int) > ((n0 : Int) - 1))) = some false; rw [decide_eq_false (by omega)])
def qfRows10 : Ent := .slen 0 13 (.chan (some 4))
theorem qfRows10_ok (R : Nat → Int) (hR : ∀ j, 0 ≤ R j ∧ R j ≤ 255) (n0 : Nat) (hb : qfRowB n0) (hc : 6 ≤ n0) : @EntOK (qfRowV R hR n0) Try.prog qfRows10 := by
  letI : Env := qfRowV R hR n0
  exact entSlen (n := n0) (j := 4) (c := ((n0 : Int) - 6)) rfl rfl (by simp; try omega) (by first | exact .inl rfl | (right; omega))
def qfRows11 : Ent := .bin .gtr (.int .i64 2) (.chan (some 4)) (.bool true)
theorem qfRows11_ok (R : Nat → Int) (hR : ∀ j, 0 ≤ R j ∧ R j ≤ 255) (n0 : Nat) (hb : qfRowB n0) (hc : 2 > ((n0 : Int) - 6)) : @EntOK (qfRowV R hR n0) Try.prog qfRows11 := by
  letI : Env := qfRowV R hR n0
  exact entCmp (k := .i64) (a := 2) (b := ((n0 : Int) - 6)) rfl rfl (by show some (decide ((2 : Int) > ((n0 : Int) - 6))) = some true; rw [decide_eq_true (by omega)])
def qfRows12 : Ent := .bin .gtr (.int .i64 2) (.chan (some 4)) (.bool false)
theorem qfRows12_ok (R : Nat → Int) (hR : ∀ j, 0 ≤ R j ∧ R j ≤ 255) (n0 : Nat) (hb : qfRowB n0) (hc : ¬ (2 > ((n0 : Int) - 6))) : @EntOK (qfRowV R hR n0) Try.prog qfRows12 := by
  letI : Env := qfRowV R hR n0
  exact entCmp (k := .i64) (a := 2) (b := ((n0 : Int) - 6)) rfl rfl (by show some (decide ((2 : Int) > ((n0 : Int) - 6))) = some false; rw [decide_eq_false (by omega)])
def qfRows13 : Ent := .slen 0 17 (.chan (some 5))
theorem qfRows13_ok (R : Nat → Int) (hR : ∀ j, 0 ≤ R j ∧ R j ≤ 255) (n0 : Nat) (hb : qfRowB n0) (hc : 8 ≤ n0) : @EntOK (qfRowV R hR n0) Try.prog qfRows13 := by
  letI : Env := qfRowV R hR n0
  exact entSlen (n := n0) (j := 5) (c := ((n0 : Int) - 8)) rfl rfl (by simp; try omega) (by first | exact .inl rfl | (right; omega))
def qfRows14 : Ent := .conv .u32 (.chan (some 1048582)) (.chan (some 6))
theorem qfRows14_ok (R : Nat → Int) (hR : ∀ j, 0 ≤ R j ∧ R j ≤ 255) (n0 : Nat) (hb : qfRowB n0) : @EntOK (qfRowV R hR n0) Try.prog qfRows14 := by
  letI : Env := qfRowV R hR n0
  have rb1048582 := hR 1048582; exact entConvV (k := .u32) (l := .u8) (a := (R 1048582)) (c := (R 1048582)) rfl rfl (by rw [IntWalk.u32_in _ (by omega)])
def qfRows15 : Ent := .bin .or (.int .u32 0) (.chan (some 6)) (.chan (some 6))
theorem qfRows15_ok (R : Nat → Int) (hR : ∀ j, 0 ≤ R j ∧ R j ≤ 255) (n0 : Nat) (hb : qfRowB n0) : @EntOK (qfRowV R hR n0) Try.prog qfRows15 := by
  letI : Env := qfRowV R hR n0
  have rb1048582 := hR 1048582; exact entOrV (k := .u32) (a := 0) (b := (R 1048582)) (c := (R 1048582)) rfl rfl rfl (by have h := join_u32 0 (R 1048582) 8 256 (by decide) (by omega) (by omega) (by omega) (by omega); simpa using h)
def qfRows16 : Ent := .bin .shl (.chan (some 6)) (.int .u64 8) (.chan (some 7))
theorem qfRows16_ok (R : Nat → Int) (hR : ∀ j, 0 ≤ R j ∧ R j ≤ 255) (n0 : Nat) (hb : qfRowB n0) : @EntOK (qfRowV R hR n0) Try.prog qfRows16 := by
  letI : Env := qfRowV R hR n0
  have rb1048582 := hR 1048582; exact entShlV (k := .u32) (l := .u64) (a := (R 1048582)) (c := ((R 1048582) * 256)) (s := 8) rfl rfl rfl (by decide) (by show IntKind.u32.wrap ((R 1048582) * 2 ^ 8) = ((R 1048582) * 256); rw [show ((2 : Int) ^ 8) = 256 from by decide, IntWalk.u32_in _ (by omega)])
def qfRows17 : Ent := .conv .u32 (.chan (some 1048583)) (.chan (some 8))
theorem qfRows17_ok (R : Nat → Int) (hR : ∀ j, 0 ≤ R j ∧ R j ≤ 255) (n0 : Nat) (hb : qfRowB n0) : @EntOK (qfRowV R hR n0) Try.prog qfRows17 := by
  letI : Env := qfRowV R hR n0
  have rb1048583 := hR 1048583; exact entConvV (k := .u32) (l := .u8) (a := (R 1048583)) (c := (R 1048583)) rfl rfl (by rw [IntWalk.u32_in _ (by omega)])
def qfRows18 : Ent := .bin .or (.chan (some 7)) (.chan (some 8)) (.chan (some 9))
theorem qfRows18_ok (R : Nat → Int) (hR : ∀ j, 0 ≤ R j ∧ R j ≤ 255) (n0 : Nat) (hb : qfRowB n0) : @EntOK (qfRowV R hR n0) Try.prog qfRows18 := by
  letI : Env := qfRowV R hR n0
  have rb1048582 := hR 1048582; have rb1048583 := hR 1048583; exact entOrV (k := .u32) (a := ((R 1048582) * 256)) (b := (R 1048583)) (c := (((R 1048582) * 256) + (R 1048583))) rfl rfl rfl (by exact join_u32 (R 1048582) (R 1048583) 8 256 (by decide) (by omega) (by omega) (by omega) (by omega))
def qfRows19 : Ent := .conv .i64 (.chan (some 9)) (.chan (some 10))
theorem qfRows19_ok (R : Nat → Int) (hR : ∀ j, 0 ≤ R j ∧ R j ≤ 255) (n0 : Nat) (hb : qfRowB n0) : @EntOK (qfRowV R hR n0) Try.prog qfRows19 := by
  letI : Env := qfRowV R hR n0
  have rb1048582 := hR 1048582; have rb1048583 := hR 1048583; exact entConvV (k := .i64) (l := .u32) (a := (((R 1048582) * 256) + (R 1048583))) (c := (((R 1048582) * 256) + (R 1048583))) rfl rfl (by rw [IntWalk.i64_in _ (by omega)])
def qfRows20 : Ent := .bin .and (.chan (some 10)) (.int .i64 8191) (.chan (some 11))
theorem qfRows20_ok (R : Nat → Int) (hR : ∀ j, 0 ≤ R j ∧ R j ≤ 255) (n0 : Nat) (hb : qfRowB n0) : @EntOK (qfRowV R hR n0) Try.prog qfRows20 := by
  letI : Env := qfRowV R hR n0
  have rb1048582 := hR 1048582; have rb1048583 := hR 1048583; exact entAndV (k := .i64) (a := (((R 1048582) * 256) + (R 1048583))) (b := 8191) (c := ((((R 1048582) * 256) + (R 1048583)) % 8192)) rfl rfl rfl (by exact mask_i64 (((R 1048582) * 256) + (R 1048583)) 13 8191 8192 (by decide) (by decide) (by decide))
def qfRows21 : Ent := .bin .gtr (.int .i64 1) (.chan (some 5)) (.bool true)
theorem qfRows21_ok (R : Nat → Int) (hR : ∀ j, 0 ≤ R j ∧ R j ≤ 255) (n0 : Nat) (hb : qfRowB n0) (hc : 1 > ((n0 : Int) - 8)) : @EntOK (qfRowV R hR n0) Try.prog qfRows21 := by
  letI : Env := qfRowV R hR n0
  exact entCmp (k := .i64) (a := 1) (b := ((n0 : Int) - 8)) rfl rfl (by show some (decide ((1 : Int) > ((n0 : Int) - 8))) = some true; rw [decide_eq_true (by omega)])
def qfRows22 : Ent := .bin .gtr (.int .i64 1) (.chan (some 5)) (.bool false)
theorem qfRows22_ok (R : Nat → Int) (hR : ∀ j, 0 ≤ R j ∧ R j ≤ 255) (n0 : Nat) (hb : qfRowB n0) (hc : ¬ (1 > ((n0 : Int) - 8))) : @EntOK (qfRowV R hR n0) Try.prog qfRows22 := by
  letI : Env := qfRowV R hR n0
  exact entCmp (k := .i64) (a := 1) (b := ((n0 : Int) - 8)) rfl rfl (by show some (decide ((1 : Int) > ((n0 : Int) - 8))) = some false; rw [decide_eq_false (by omega)])
def qfRows23 : Ent := .slen 0 19 (.chan (some 12))
theorem qfRows23_ok (R : Nat → Int) (hR : ∀ j, 0 ≤ R j ∧ R j ≤ 255) (n0 : Nat) (hb : qfRowB n0) (hc : 9 ≤ n0) : @EntOK (qfRowV R hR n0) Try.prog qfRows23 := by
  letI : Env := qfRowV R hR n0
  exact entSlen (n := n0) (j := 12) (c := ((n0 : Int) - 9)) rfl rfl (by simp; try omega) (by first | exact .inl rfl | (right; omega))
def qfRows24 : Ent := .conv .u32 (.chan (some 1048584)) (.chan (some 13))
theorem qfRows24_ok (R : Nat → Int) (hR : ∀ j, 0 ≤ R j ∧ R j ≤ 255) (n0 : Nat) (hb : qfRowB n0) : @EntOK (qfRowV R hR n0) Try.prog qfRows24 := by
  letI : Env := qfRowV R hR n0
  have rb1048584 := hR 1048584; exact entConvV (k := .u32) (l := .u8) (a := (R 1048584)) (c := (R 1048584)) rfl rfl (by rw [IntWalk.u32_in _ (by omega)])
def qfRows25 : Ent := .bin .or (.int .u32 0) (.chan (some 13)) (.chan (some 13))
theorem qfRows25_ok (R : Nat → Int) (hR : ∀ j, 0 ≤ R j ∧ R j ≤ 255) (n0 : Nat) (hb : qfRowB n0) : @EntOK (qfRowV R hR n0) Try.prog qfRows25 := by
  letI : Env := qfRowV R hR n0
  have rb1048584 := hR 1048584; exact entOrV (k := .u32) (a := 0) (b := (R 1048584)) (c := (R 1048584)) rfl rfl rfl (by have h := join_u32 0 (R 1048584) 8 256 (by decide) (by omega) (by omega) (by omega) (by omega); simpa using h)
def qfRows26 : Ent := .conv .i64 (.chan (some 13)) (.chan (some 14))
theorem qfRows26_ok (R : Nat → Int) (hR : ∀ j, 0 ≤ R j ∧ R j ≤ 255) (n0 : Nat) (hb : qfRowB n0) : @EntOK (qfRowV R hR n0) Try.prog qfRows26 := by
  letI : Env := qfRowV R hR n0
  have rb1048584 := hR 1048584; exact entConvV (k := .i64) (l := .u32) (a := (R 1048584)) (c := (R 1048584)) rfl rfl (by rw [IntWalk.i64_in _ (by omega)])
def qfRows27 : Ent := .bin .gtr (.int .i64 1) (.chan (some 12)) (.bool true)
theorem qfRows27_ok (R : Nat → Int) (hR : ∀ j, 0 ≤ R j ∧ R j ≤ 255) (n0 : Nat) (hb : qfRowB n0) (hc : 1 > ((n0 : Int) - 9)) : @EntOK (qfRowV R hR n0) Try.prog qfRows27 := by
  letI : Env := qfRowV R hR n0
  exact entCmp (k := .i64) (a := 1) (b := ((n0 : Int) - 9)) rfl rfl (by show some (decide ((1 : Int) > ((n0 : Int) - 9))) = some true; rw [decide_eq_true (by omega)])
def qfRows28 : Ent := .bin .gtr (.int .i64 1) (.chan (some 12)) (.bool false)
theorem qfRows28_ok (R : Nat → Int) (hR : ∀ j, 0 ≤ R j ∧ R j ≤ 255) (n0 : Nat) (hb : qfRowB n0) (hc : ¬ (1 > ((n0 : Int) - 9))) : @EntOK (qfRowV R hR n0) Try.prog qfRows28 := by
  letI : Env := qfRowV R hR n0
  exact entCmp (k := .i64) (a := 1) (b := ((n0 : Int) - 9)) rfl rfl (by show some (decide ((1 : Int) > ((n0 : Int) - 9))) = some false; rw [decide_eq_false (by omega)])
def qfRows29 : Ent := .slen 0 21 (.chan (some 15))
theorem qfRows29_ok (R : Nat → Int) (hR : ∀ j, 0 ≤ R j ∧ R j ≤ 255) (n0 : Nat) (hb : qfRowB n0) (hc : 10 ≤ n0) : @EntOK (qfRowV R hR n0) Try.prog qfRows29 := by
  letI : Env := qfRowV R hR n0
  exact entSlen (n := n0) (j := 15) (c := ((n0 : Int) - 10)) rfl rfl (by simp; try omega) (by first | exact .inl rfl | (right; omega))
def qfRows30 : Ent := .conv .u32 (.chan (some 1048585)) (.chan (some 16))
theorem qfRows30_ok (R : Nat → Int) (hR : ∀ j, 0 ≤ R j ∧ R j ≤ 255) (n0 : Nat) (hb : qfRowB n0) : @EntOK (qfRowV R hR n0) Try.prog qfRows30 := by
  letI : Env := qfRowV R hR n0
  have rb1048585 := hR 1048585; exact entConvV (k := .u32) (l := .u8) (a := (R 1048585)) (c := (R 1048585)) rfl rfl (by rw [IntWalk.u32_in _ (by omega)])
def qfRows31 : Ent := .bin .or (.int .u32 0) (.chan (some 16)) (.chan (some 16))
theorem qfRows31_ok (R : Nat → Int) (hR : ∀ j, 0 ≤ R j ∧ R j ≤ 255) (n0 : Nat) (hb : qfRowB n0) : @EntOK (qfRowV R hR n0) Try.prog qfRows31 := by
  letI : Env := qfRowV R hR n0
  have rb1048585 := hR 1048585; exact entOrV (k := .u32) (a := 0) (b := (R 1048585)) (c := (R 1048585)) rfl rfl rfl (by have h := join_u32 0 (R 1048585) 8 256 (by decide) (by omega) (by omega) (by omega) (by omega); simpa using h)
def qfRows32 : Ent := .conv .i64 (.chan (some 16)) (.chan (some 17))
theorem qfRows32_ok (R : Nat → Int) (hR : ∀ j, 0 ≤ R j ∧ R j ≤ 255) (n0 : Nat) (hb : qfRowB n0) : @EntOK (qfRowV R hR n0) Try.prog qfRows32 := by
  letI : Env := qfRowV R hR n0
  have rb1048585 := hR 1048585; exact entConvV (k := .i64) (l := .u32) (a := (R 1048585)) (c := (R 1048585)) rfl rfl (by rw [IntWalk.i64_in _ (by omega)])
def qfRows33 : Ent := .bin .gtr (.int .i64 2) (.chan (some 15)) (.bool true)
theorem qfRows33_ok (R : Nat → Int) (hR : ∀ j, 0 ≤ R j ∧ R j ≤ 255) (n0 : Nat) (hb : qfRowB n0) (hc : 2 > ((n0 : Int) - 10)) : @EntOK (qfRowV R hR n0) Try.prog qfRows33 := by
  letI : Env := qfRowV R hR n0
  exact entCmp (k := .i64) (a := 2) (b := ((n0 : Int) - 10)) rfl rfl (by show some (decide ((2 : Int) > ((n0 : Int) - 10))) = some true; rw [decide_eq_true (by omega)])
def qfRows34 : Ent := .bin .gtr (.int .i64 2) (.chan (some 15)) (.bool false)
theorem qfRows34_ok (R : Nat → Int) (hR : ∀ j, 0 ≤ R j ∧ R j ≤ 255) (n0 : Nat) (hb : qfRowB n0) (hc : ¬ (2 > ((n0 : Int) - 10))) : @EntOK (qfRowV R hR n0) Try.prog qfRows34 := by
  letI : Env := qfRowV R hR n0
  exact entCmp (k := .i64) (a := 2) (b := ((n0 : Int) - 10)) rfl rfl (by show some (decide ((2 : Int) > ((n0 : Int) - 10))) = some false; rw [decide_eq_false (by omega)])
def qfRows35 : Ent := .slen 0 25 (.chan (some 18))
theorem qfRows35_ok (R : Nat → Int) (hR : ∀ j, 0 ≤ R j ∧ R j ≤ 255) (n0 : Nat) (hb : qfRowB n0) (hc : 12 ≤ n0) : @EntOK (qfRowV R hR n0) Try.prog qfRows35 := by
  letI : Env := qfRowV R hR n0
  exact entSlen (n := n0) (j := 18) (c := ((n0 : Int) - 12)) rfl rfl (by simp; try omega) (by first | exact .inl rfl | (right; omega))
def qfRows36 : Ent := .conv .u32 (.chan (some 1048586)) (.chan (some 19))
theorem qfRows36_ok (R : Nat → Int) (hR : ∀ j, 0 ≤ R j ∧ R j ≤ 255) (n0 : Nat) (hb : qfRowB n0) : @EntOK (qfRowV R hR n0) Try.prog qfRows36 := by
  letI : Env := qfRowV R hR n0
  have rb1048586 := hR 1048586; exact entConvV (k := .u32) (l := .u8) (a := (R 1048586)) (c := (R 1048586)) rfl rfl (by rw [IntWalk.u32_in _ (by omega)])
def qfRows37 : Ent := .bin .or (.int .u32 0) (.chan (some 19)) (.chan (some 19))
theorem qfRows37_ok (R : Nat → Int) (hR : ∀ j, 0 ≤ R j ∧ R j ≤ 255) (n0 : Nat) (hb : qfRowB n0) : @EntOK (qfRowV R hR n0) Try.prog qfRows37 := by
  letI : Env := qfRowV R hR n0
  have rb1048586 := hR 1048586; exact entOrV (k := .u32) (a := 0) (b := (R 1048586)) (c := (R 1048586)) rfl rfl rfl (by have h := join_u32 0 (R 1048586) 8 256 (by decide) (by omega) (by omega) (by omega) (by omega); simpa using h)
def qfRows38 : Ent := .bin .shl (.chan (some 19)) (.int .u64 8) (.chan (some 20))
theorem qfRows38_ok (R : Nat → Int) (hR : ∀ j, 0 ≤ R j ∧ R j ≤ 255) (n0 : Nat) (hb : qfRowB n0) : @EntOK (qfRowV R hR n0) Try.prog qfRows38 := by
  letI : Env := qfRowV R hR n0
  have rb1048586 := hR 1048586; exact entShlV (k := .u32) (l := .u64) (a := (R 1048586)) (c := ((R 1048586) * 256)) (s := 8) rfl rfl rfl (by decide) (by show IntKind.u32.wrap ((R 1048586) * 2 ^ 8) = ((R 1048586) * 256); rw [show ((2 : Int) ^ 8) = 256 from by decide, IntWalk.u32_in _ (by omega)])
def qfRows39 : Ent := .conv .u32 (.chan (some 1048587)) (.chan (some 21))
theorem qfRows39_ok (R : Nat → Int) (hR : ∀ j, 0 ≤ R j ∧ R j ≤ 255) (n0 : Nat) (hb : qfRowB n0) : @EntOK (qfRowV R hR n0) Try.prog qfRows39 := by
  letI : Env := qfRowV R hR n0
  have rb1048587 := hR 1048587; exact entConvV (k := .u32) (l := .u8) (a := (R 1048587)) (c := (R 1048587)) rfl rfl (by rw [IntWalk.u32_in _ (by omega)])
def qfRows40 : Ent := .bin .or (.chan (some 20)) (.chan (some 21)) (.chan (some 22))
theorem qfRows40_ok (R : Nat → Int) (hR : ∀ j, 0 ≤ R j ∧ R j ≤ 255) (n0 : Nat) (hb : qfRowB n0) : @EntOK (qfRowV R hR n0) Try.prog qfRows40 := by
  letI : Env := qfRowV R hR n0
  have rb1048586 := hR 1048586; have rb1048587 := hR 1048587; exact entOrV (k := .u32) (a := ((R 1048586) * 256)) (b := (R 1048587)) (c := (((R 1048586) * 256) + (R 1048587))) rfl rfl rfl (by exact join_u32 (R 1048586) (R 1048587) 8 256 (by decide) (by omega) (by omega) (by omega) (by omega))
def qfRows41 : Ent := .conv .i64 (.chan (some 22)) (.chan (some 23))
theorem qfRows41_ok (R : Nat → Int) (hR : ∀ j, 0 ≤ R j ∧ R j ≤ 255) (n0 : Nat) (hb : qfRowB n0) : @EntOK (qfRowV R hR n0) Try.prog qfRows41 := by
  letI : Env := qfRowV R hR n0
  have rb1048586 := hR 1048586; have rb1048587 := hR 1048587; exact entConvV (k := .i64) (l := .u32) (a := (((R 1048586) * 256) + (R 1048587))) (c := (((R 1048586) * 256) + (R 1048587))) rfl rfl (by rw [IntWalk.i64_in _ (by omega)])
def qfRows42 : Ent := .bin .gtr (.int .i64 4) (.chan (some 18)) (.bool true)
theorem qfRows42_ok (R : Nat → Int) (hR : ∀ j, 0 ≤ R j ∧ R j ≤ 255) (n0 : Nat) (hb : qfRowB n0) (hc : 4 > ((n0 : Int) - 12)) : @EntOK (qfRowV R hR n0) Try.prog qfRows42 := by
  letI : Env := qfRowV R hR n0
  exact entCmp (k := .i64) (a := 4) (b := ((n0 : Int) - 12)) rfl rfl (by show some (decide ((4 : Int) > ((n0 : Int) - 12))) = some true; rw [decide_eq_true (by omega)])
def qfRows43 : Ent := .bin .gtr (.int .i64 4) (.chan (some 18)) (.bool false)
theorem qfRows43_ok (R : Nat → Int) (hR : ∀ j, 0 ≤ R j ∧ R j ≤ 255) (n0 : Nat) (hb : qfRowB n0) (hc : ¬ (4 > ((n0 : Int) - 12))) : @EntOK (qfRowV R hR n0) Try.prog qfRows43 := by
  letI : Env := qfRowV R hR n0
  exact entCmp (k := .i64) (a := 4) (b := ((n0 : Int) - 12)) rfl rfl (by show some (decide ((4 : Int) > ((n0 : Int) - 12))) = some false; rw [decide_eq_false (by omega)])
def qfRows44 : Ent := .slen 0 33 (.chan (some 24))
theorem qfRows44_ok (R : Nat → Int) (hR : ∀ j, 0 ≤ R j ∧ R j ≤ 255) (n0 : Nat) (hb : qfRowB n0) (hc : 16 ≤ n0) : @EntOK (qfRowV R hR n0) Try.prog qfRows44 := by
  letI : Env := qfRowV R hR n0
  exact entSlen (n := n0) (j := 24) (c := ((n0 : Int) - 16)) rfl rfl (by simp; try omega) (by first | exact .inl rfl | (right; omega))
def qfRows45 : Ent := .conv .u32 (.chan (some 1048588)) (.chan (some 25))
theorem qfRows45_ok (R : Nat → Int) (hR : ∀ j, 0 ≤ R j ∧ R j ≤ 255) (n0 : Nat) (hb : qfRowB n0) : @EntOK (qfRowV R hR n0) Try.prog qfRows45 := by
  letI : Env := qfRowV R hR n0
  have rb1048588 := hR 1048588; exact entConvV (k := .u32) (l := .u8) (a := (R 1048588)) (c := (R 1048588)) rfl rfl (by rw [IntWalk.u32_in _ (by omega)])
def qfRows46 : Ent := .bin .or (.int .u32 0) (.chan (some 25)) (.chan (some 25))
theorem qfRows46_ok (R : Nat → Int) (hR : ∀ j, 0 ≤ R j ∧ R j ≤ 255) (n0 : Nat) (hb : qfRowB n0) : @EntOK (qfRowV R hR n0) Try.prog qfRows46 := by
  letI : Env := qfRowV R hR n0
  have rb1048588 := hR 1048588; exact entOrV (k := .u32) (a := 0) (b := (R 1048588)) (c := (R 1048588)) rfl rfl rfl (by have h := join_u32 0 (R 1048588) 8 256 (by decide) (by omega) (by omega) (by omega) (by omega); simpa using h)
def qfRows47 : Ent := .bin .shl (.chan (some 25)) (.int .u64 8) (.chan (some 26))
theorem qfRows47_ok (R : Nat → Int) (hR : ∀ j, 0 ≤ R j ∧ R j ≤ 255) (n0 : Nat) (hb : qfRowB n0) : @EntOK (qfRowV R hR n0) Try.prog qfRows47 := by
  letI : Env := qfRowV R hR n0
  have rb1048588 := hR 1048588; exact entShlV (k := .u32) (l := .u64) (a := (R 1048588)) (c := ((R 1048588) * 256)) (s := 8) rfl rfl rfl (by decide) (by show IntKind.u32.wrap ((R 1048588) * 2 ^ 8) = ((R 1048588) * 256); rw [show ((2 : Int) ^ 8) = 256 from by decide, IntWalk.u32_in _ (by omega)])
def qfRows48 : Ent := .conv .u32 (.chan (some 1048589)) (.chan (some 27))
theorem qfRows48_ok (R : Nat → Int) (hR : ∀ j, 0 ≤ R j ∧ R j ≤ 255) (n0 : Nat) (hb : qfRowB n0) : @EntOK (qfRowV R hR n0) Try.prog qfRows48 := by
  letI : Env := qfRowV R hR n0
  have rb1048589 := hR 1048589; exact entConvV (k := .u32) (l := .u8) (a := (R 1048589)) (c := (R 1048589)) rfl rfl (by rw [IntWalk.u32_in _ (by omega)])
def qfRows49 : Ent := .bin .or (.chan (some 26)) (.chan (some 27)) (.chan (some 28))
theorem qfRows49_ok (R : Nat → Int) (hR : ∀ j, 0 ≤ R j ∧ R j ≤ 255) (n0 : Nat) (hb : qfRowB n0) : @EntOK (qfRowV R hR n0) Try.prog qfRows49 := by
  letI : Env := qfRowV R hR n0
  have rb1048588 := hR 1048588; have rb1048589 := hR 1048589; exact entOrV (k := .u32) (a := ((R 1048588) * 256)) (b := (R 1048589)) (c := (((R 1048588) * 256) + (R 1048589))) rfl rfl rfl (by exact join_u32 (R 1048588) (R 1048589) 8 256 (by decide) (by omega) (by omega) (by omega) (by omega))
def qfRows50 : Ent := .bin .shl (.chan (some 28)) (.int .u64 8) (.chan (some 29))
theorem qfRows50_ok (R : Nat → Int) (hR : ∀ j, 0 ≤ R j ∧ R j ≤ 255) (n0 : Nat) (hb : qfRowB n0) : @EntOK (qfRowV R hR n0) Try.prog qfRows50 := by
  letI : Env := qfRowV R hR n0
  have rb1048588 := hR 1048588; have rb1048589 := hR 1048589; exact entShlV (k := .u32) (l := .u64) (a := (((R 1048588) * 256) + (R 1048589))) (c := ((((R 1048588) * 256) + (R 1048589)) * 256)) (s := 8) rfl rfl rfl (by decide) (by show IntKind.u32.wrap ((((R 1048588) * 256) + (R 1048589)) * 2 ^ 8) = ((((R 1048588) * 256) + (R 1048589)) * 256); rw [show ((2 : Int) ^ 8) = 256 from by decide, IntWalk.u32_in _ (by omega)])
def qfRows51 : Ent := .conv .u32 (.chan (some 1048590)) (.chan (some 30))
theorem qfRows51_ok (R : Nat → Int) (hR : ∀ j, 0 ≤ R j ∧ R j ≤ 255) (n0 : Nat) (hb : qfRowB n0) : @EntOK (qfRowV R hR n0) Try.prog qfRows51 := by
  letI : Env := qfRowV R hR n0
  have rb1048590 := hR 1048590; exact entConvV (k := .u32) (l := .u8) (a := (R 1048590)) (c := (R 1048590)) rfl rfl (by rw [IntWalk.u32_in _ (by omega)])
def qfRows52 : Ent := .bin .or (.chan (some 29)) (.chan (some 30)) (.chan (some 31))
theorem qfRows52_ok (R : Nat → Int) (hR : ∀ j, 0 ≤ R j ∧ R j ≤ 255) (n0 : Nat) (hb : qfRowB n0) : @EntOK (qfRowV R hR n0) Try.prog qfRows52 := by
  letI : Env := qfRowV R hR n0
  have rb1048588 := hR 1048588; have rb1048589 := hR 1048589; have rb1048590 := hR 1048590; exact entOrV (k := .u32) (a := ((((R 1048588) * 256) + (R 1048589)) * 256)) (b := (R 1048590)) (c := (((((R 1048588) * 256) + (R 1048589)) * 256) + (R 1048590))) rfl rfl rfl (by exact join_u32 (((R 1048588) * 256) + (R 1048589)) (R 1048590) 8 256 (by decide) (by omega) (by omega) (by omega) (by omega))
def qfRows53 : Ent := .bin .shl (.chan (some 31)) (.int .u64 8) (.chan (some 32))
theorem qfRows53_ok (R : Nat → Int) (hR : ∀ j, 0 ≤ R j ∧ R j ≤ 255) (n0 : Nat) (hb : qfRowB n0) : @EntOK (qfRowV R hR n0) Try.prog qfRows53 := by
  letI : Env := qfRowV R hR n0
  have rb1048588 := hR 1048588; have rb1048589 := hR 1048589; have rb1048590 := hR 1048590; exact entShlV (k := .u32) (l := .u64) (a := (((((R 1048588) * 256) + (R 1048589)) * 256) + (R 1048590))) (c := ((((((R 1048588) * 256) + (R 1048589)) * 256) + (R 1048590)) * 256)) (s := 8) rfl rfl rfl (by decide) (by show IntKind.u32.wrap ((((((R 1048588) * 256) + (R 1048589)) * 256) + (R 1048590)) * 2 ^ 8) = ((((((R 1048588) * 256) + (R 1048589)) * 256) + (R 1048590)) * 256); rw [show ((2 : Int) ^ 8) = 256 from by decide, IntWalk.u32_in _ (by omega)])
def qfRows54 : Ent := .conv .u32 (.chan (some 1048591)) (.chan (some 33))
theorem qfRows54_ok (R : Nat → Int) (hR : ∀ j, 0 ≤ R j ∧ R j ≤ 255) (n0 : Nat) (hb : qfRowB n0) : @EntOK (qfRowV R hR n0) Try.prog qfRows54 := by
  letI : Env := qfRowV R hR n0
  have rb1048591 := hR 1048591; exact entConvV (k := .u32) (l := .u8) (a := (R 1048591)) (c := (R 1048591)) rfl rfl (by rw [IntWalk.u32_in _ (by omega)])
def qfRows55 : Ent := .bin .or (.chan (some 32)) (.chan (some 33)) (.chan (some 34))
theorem qfRows55_ok (R : Nat → Int) (hR : ∀ j, 0 ≤ R j ∧ R j ≤ 255) (n0 : Nat) (hb : qfRowB n0) : @EntOK (qfRowV R hR n0) Try.prog qfRows55 := by
  letI : Env := qfRowV R hR n0
  have rb1048588 := hR 1048588; have rb1048589 := hR 1048589; have rb1048590 := hR 1048590; have rb1048591 := hR 1048591; exact entOrV (k := .u32) (a := ((((((R 1048588) * 256) + (R 1048589)) * 256) + (R 1048590)) * 256)) (b := (R 1048591)) (c := (((((((R 1048588) * 256) + (R 1048589)) * 256) + (R 1048590)) * 256) + (R 1048591))) rfl rfl rfl (by exact join_u32 (((((R 1048588) * 256) + (R 1048589)) * 256) + (R 1048590)) (R 1048591) 8 256 (by decide) (by omega) (by omega) (by omega) (by omega))
def qfRows56 : Ent := .bin .gtr (.int .i64 4) (.chan (some 24)) (.bool true)
theorem qfRows56_ok (R : Nat → Int) (hR : ∀ j, 0 ≤ R j ∧ R j ≤ 255) (n0 : Nat) (hb : qfRowB n0) (hc : 4 > ((n0 : Int) - 16)) : @EntOK (qfRowV R hR n0) Try.prog qfRows56 := by
  letI : Env := qfRowV R hR n0
  exact entCmp (k := .i64) (a := 4) (b := ((n0 : Int) - 16)) rfl rfl (by show some (decide ((4 : Int) > ((n0 : Int) - 16))) = some true; rw [decide_eq_true (by omega)])
def qfRows57 : Ent := .bin .gtr (.int .i64 4) (.chan (some 24)) (.bool false)
theorem qfRows57_ok (R : Nat → Int) (hR : ∀ j, 0 ≤ R j ∧ R j ≤ 255) (n0 : Nat) (hb : qfRowB n0) (hc : ¬ (4 > ((n0 : Int) - 16))) : @EntOK (qfRowV R hR n0) Try.prog qfRows57 := by
  letI : Env := qfRowV R hR n0
  exact entCmp (k := .i64) (a := 4) (b := ((n0 : Int) - 16)) rfl rfl (by show some (decide ((4 : Int) > ((n0 : Int) - 16))) = some false; rw [decide_eq_false (by omega)])
def qfRows58 : Ent := .slen 0 41 (.chan (some 35))
theorem qfRows58_ok (R : Nat → Int) (hR : ∀ j, 0 ≤ R j ∧ R j ≤ 255) (n0 : Nat) (hb : qfRowB n0) (hc : 20 ≤ n0) : @EntOK (qfRowV R hR n0) Try.prog qfRows58 := by
  letI : Env := qfRowV R hR n0
  exact entSlen (n := n0) (j := 35) (c := ((n0 : Int) - 20)) rfl rfl (by simp; try omega) (by first | exact .inl rfl | (right; omega))
def qfRows59 : Ent := .conv .u32 (.chan (some 1048592)) (.chan (some 36))
theorem qfRows59_ok (R : Nat → Int) (hR : ∀ j, 0 ≤ R j ∧ R j ≤ 255) (n0 : Nat) (hb : qfRowB n0) : @EntOK (qfRowV R hR n0) Try.prog qfRows59 := by
  letI : Env := qfRowV R hR n0
  have rb1048592 := hR 1048592; exact entConvV (k := .u32) (l := .u8) (a := (R 1048592)) (c := (R 1048592)) rfl rfl (by rw [IntWalk.u32_in _ (by omega)])
def qfRows60 : Ent := .bin .or (.int .u32 0) (.chan (some 36)) (.chan (some 36))
theorem qfRows60_ok (R : Nat → Int) (hR : ∀ j, 0 ≤ R j ∧ R j ≤ 255) (n0 : Nat) (hb : qfRowB n0) : @EntOK (qfRowV R hR n0) Try.prog qfRows60 := by
  letI : Env := qfRowV R hR n0
  have rb1048592 := hR 1048592; exact entOrV (k := .u32) (a := 0) (b := (R 1048592)) (c := (R 1048592)) rfl rfl rfl (by have h := join_u32 0 (R 1048592) 8 256 (by decide) (by omega) (by omega) (by omega) (by omega); simpa using h)
def qfRows61 : Ent := .bin .shl (.chan (some 36)) (.int .u64 8) (.chan (some 37))
theorem qfRows61_ok (R : Nat → Int) (hR : ∀ j, 0 ≤ R j ∧ R j ≤ 255) (n0 : Nat) (hb : qfRowB n0) : @EntOK (qfRowV R hR n0) Try.prog qfRows61 := by
  letI : Env := qfRowV R hR n0
  have rb1048592 := hR 1048592; exact entShlV (k := .u32) (l := .u64) (a := (R 1048592)) (c := ((R 1048592) * 256)) (s := 8) rfl rfl rfl (by decide) (by show IntKind.u32.wrap ((R 1048592) * 2 ^ 8) = ((R 1048592) * 256); rw [show ((2 : Int) ^ 8) = 256 from by decide, IntWalk.u32_in _ (by omega)])
def qfRows62 : Ent := .conv .u32 (.chan (some 1048593)) (.chan (some 38))
theorem qfRows62_ok (R : Nat → Int) (hR : ∀ j, 0 ≤ R j ∧ R j ≤ 255) (n0 : Nat) (hb : qfRowB n0) : @EntOK (qfRowV R hR n0) Try.prog qfRows62 := by
  letI : Env := qfRowV R hR n0
  have rb1048593 := hR 1048593; exact entConvV (k := .u32) (l := .u8) (a := (R 1048593)) (c := (R 1048593)) rfl rfl (by rw [IntWalk.u32_in _ (by omega)])
def qfRows63 : Ent := .bin .or (.chan (some 37)) (.chan (some 38)) (.chan (some 39))
theorem qfRows63_ok (R : Nat → Int) (hR : ∀ j, 0 ≤ R j ∧ R j ≤ 255) (n0 : Nat) (hb : qfRowB n0) : @EntOK (qfRowV R hR n0) Try.prog qfRows63 := by
  letI : Env := qfRowV R hR n0
  have rb1048592 := hR 1048592; have rb1048593 := hR 1048593; exact entOrV (k := .u32) (a := ((R 1048592) * 256)) (b := (R 1048593)) (c := (((R 1048592) * 256) + (R 1048593))) rfl rfl rfl (by exact join_u32 (R 1048592) (R 1048593) 8 256 (by decide) (by omega) (by omega) (by omega) (by omega))
def qfRows64 : Ent := .bin .shl (.chan (some 39)) (.int .u64 8) (.chan (some 40))
theorem qfRows64_ok (R : Nat → Int) (hR : ∀ j, 0 ≤ R j ∧ R j ≤ 255) (n0 : Nat) (hb : qfRowB n0) : @EntOK (qfRowV R hR n0) Try.prog qfRows64 := by
  letI : Env := qfRowV R hR n0
  have rb1048592 := hR 1048592; have rb1048593 := hR 1048593; exact entShlV (k := .u32) (l := .u64) (a := (((R 1048592) * 256) + (R 1048593))) (c := ((((R 1048592) * 256) + (R 1048593)) * 256)) (s := 8) rfl rfl rfl (by decide) (by show IntKind.u32.wrap ((((R 1048592) * 256) + (R 1048593)) * 2 ^ 8) = ((((R 1048592) * 256) + (R 1048593)) * 256); rw [show ((2 : Int) ^ 8) = 256 from by decide, IntWalk.u32_in _ (by omega)])
def qfRows65 : Ent := .conv .u32 (.chan (some 1048594)) (.chan (some 41))
theorem qfRows65_ok (R : Nat → Int) (hR : ∀ j, 0 ≤ R j ∧ R j ≤ 255) (n0 : Nat) (hb : qfRowB n0) : @EntOK (qfRowV R hR n0) Try.prog qfRows65 := by
  letI : Env := qfRowV R hR n0
  have rb1048594 := hR 1048594; exact entConvV (k := .u32) (l := .u8) (a := (R 1048594)) (c := (R 1048594)) rfl rfl (by rw [IntWalk.u32_in _ (by omega)])
def qfRows66 : Ent := .bin .or (.chan (some 40)) (.chan (some 41)) (.chan (some 42))
theorem qfRows66_ok (R : Nat → Int) (hR : ∀ j, 0 ≤ R j ∧ R j ≤ 255) (n0 : Nat) (hb : qfRowB n0) : @EntOK (qfRowV R hR n0) Try.prog qfRows66 := by
  letI : Env := qfRowV R hR n0
  have rb1048592 := hR 1048592; have rb1048593 := hR 1048593; have rb1048594 := hR 1048594; exact entOrV (k := .u32) (a := ((((R 1048592) * 256) + (R 1048593)) * 256)) (b := (R 1048594)) (c := (((((R 1048592) * 256) + (R 1048593)) * 256) + (R 1048594))) rfl rfl rfl (by exact join_u32 (((R 1048592) * 256) + (R 1048593)) (R 1048594) 8 256 (by decide) (by omega) (by omega) (by omega) (by omega))
def qfRows67 : Ent := .bin .shl (.chan (some 42)) (.int .u64 8) (.chan (some 43))
theorem qfRows67_ok (R : Nat → Int) (hR : ∀ j, 0 ≤ R j ∧ R j ≤ 255) (n0 : Nat) (hb : qfRowB n0) : @EntOK (qfRowV R hR n0) Try.prog qfRows67 := by
  letI : Env := qfRowV R hR n0
  have rb1048592 := hR 1048592; have rb1048593 := hR 1048593; have rb1048594 := hR 1048594; exact entShlV (k := .u32) (l := .u64) (a := (((((R 1048592) * 256) + (R 1048593)) * 256) + (R 1048594))) (c := ((((((R 1048592) * 256) + (R 1048593)) * 256) + (R 1048594)) * 256)) (s := 8) rfl rfl rfl (by decide) (by show IntKind.u32.wrap ((((((R 1048592) * 256) + (R 1048593)) * 256) + (R 1048594)) * 2 ^ 8) = ((((((R 1048592) * 256) + (R 1048593)) * 256) + (R 1048594)) * 256); rw [show ((2 : Int) ^ 8) = 256 from by decide, IntWalk.u32_in _ (by omega)])
def qfRows68 : Ent := .conv .u32 (.chan (some 1048595)) (.chan (some 44))
theorem qfRows68_ok (R : Nat → Int) (hR : ∀ j, 0 ≤ R j ∧ R j ≤ 255) (n0 : Nat) (hb : qfRowB n0) : @EntOK (qfRowV R hR n0) Try.prog qfRows68 := by
  letI : Env := qfRowV R hR n0
  have rb1048595 := hR 1048595; exact entConvV (k := .u32) (l := .u8) (a := (R 1048595)) (c := (R 1048595)) rfl rfl (by rw [IntWalk.u32_in _ (by omega)])
def qfRows69 : Ent := .bin .or (.chan (some 43)) (.chan (some 44)) (.chan (some 45))
theorem qfRows69_ok (R : Nat → Int) (hR : ∀ j, 0 ≤ R j ∧ R j ≤ 255) (n0 : Nat) (hb : qfRowB n0) : @EntOK (qfRowV R hR n0) Try.prog qfRows69 := by
  letI : Env := qfRowV R hR n0
  have rb1048592 := hR 1048592; have rb1048593 := hR 1048593; have rb1048594 := hR 1048594; have rb1048595 := hR 1048595; exact entOrV (k := .u32) (a := ((((((R 1048592) * 256) + (R 1048593)) * 256) + (R 1048594)) * 256)) (b := (R 1048595)) (c := (((((((R 1048592) * 256) + (R 1048593)) * 256) + (R 1048594)) * 256) + (R 1048595))) rfl rfl rfl (by exact join_u32 (((((R 1048592) * 256) + (R 1048593)) * 256) + (R 1048594)) (R 1048595) 8 256 (by decide) (by omega) (by omega) (by omega) (by omega))
def qfRows70 : Ent := .bin .gtr (.int .i64 0) (.chan (some 35)) (.bool false)
theorem qfRows70_ok (R : Nat → Int) (hR : ∀ j, 0 ≤ R j ∧ R j ≤ 255) (n0 : Nat) (hb : qfRowB n0) (hc : ¬ (0 > ((n0 : Int) - 20))) : @EntOK (qfRowV R hR n0) Try.prog qfRows70 := by
  letI : Env := qfRowV R hR n0
  exact entCmp (k := .i64) (a := 0) (b := ((n0 : Int) - 20)) rfl rfl (by show some (decide ((0 : Int) > ((n0 : Int) - 20))) = some false; rw [decide_eq_false (by omega)])
def qfRows71 : Ent := .bin .and (.chan (some 3)) (.int .i64 15) (.int .i64 5)
theorem qfRows71_ok (R : Nat → Int) (hR : ∀ j, 0 ≤ R j ∧ R j ≤ 255) (n0 : Nat) (hb : qfRowB n0) (hc : ((R 1048576) % 16) = 5) : @EntOK (qfRowV R hR n0) Try.prog qfRows71 := by
  letI : Env := qfRowV R hR n0
  have rb1048576 := hR 1048576; exact entAndI (k := .i64) (a := (R 1048576)) (b := 15) (c := 5) rfl rfl (by rw [show band .i64 (R 1048576) 15 = ((R 1048576) % 16) from (by exact mask_i64 (R 1048576) 4 15 16 (by decide) (by decide) (by decide))]; omega)
def qfRows72 : Ent := .bin .shr (.chan (some 3)) (.int .u64 4) (.chan (some 47))
theorem qfRows72_ok (R : Nat → Int) (hR : ∀ j, 0 ≤ R j ∧ R j ≤ 255) (n0 : Nat) (hb : qfRowB n0) : @EntOK (qfRowV R hR n0) Try.prog qfRows72 := by
  letI : Env := qfRowV R hR n0
  have rb1048576 := hR 1048576; exact entShrV (k := .i64) (l := .u64) (a := (R 1048576)) (c := ((R 1048576) / 16)) (s := 4) rfl rfl rfl (by decide) (by exact fdiv_nat _ 16)
def qfRows73 : Ent := .bin .neq (.chan (some 47)) (.int .i64 4) (.bool true)
theorem qfRows73_ok (R : Nat → Int) (hR : ∀ j, 0 ≤ R j ∧ R j ≤ 255) (n0 : Nat) (hb : qfRowB n0) (hc : ¬ (((R 1048576) / 16) = 4)) : @EntOK (qfRowV R hR n0) Try.prog qfRows73 := by
  letI : Env := qfRowV R hR n0
  have rb1048576 := hR 1048576; exact entCmp (k := .i64) (a := ((R 1048576) / 16)) (b := 4) rfl rfl (by show some ((((R 1048576) / 16) : Int) != 4) = some true; rw [bne_iff_ne.2 (by omega)])
def qfRows74 : Ent := .bin .lss (.chan (some 0)) (.int .i64 20) (.bool false)
theorem qfRows74_ok (R : Nat → Int) (hR : ∀ j, 0 ≤ R j ∧ R j ≤ 255) (n0 : Nat) (hb : qfRowB n0) (hc : ¬ ((n0 : Int) < 20)) : @EntOK (qfRowV R hR n0) Try.prog qfRows74 := by
  letI : Env := qfRowV R hR n0
  exact entCmp (k := .i64) (a := (n0 : Int)) (b := 20) rfl rfl (by show some (decide (((n0 : Int) : Int) < 20)) = some false; rw [decide_eq_false (by omega)])
def qfRows75 : Ent := .bin .rem (.chan (some 1048576)) (.int .u8 16) (.int .u8 5)
theorem qfRows75_ok (R : Nat → Int) (hR : ∀ j, 0 ≤ R j ∧ R j ≤ 255) (n0 : Nat) (hb : qfRowB n0) (hc : ((R 1048576) % 16) = 5) : @EntOK (qfRowV R hR n0) Try.prog qfRows75 := by
  letI : Env := qfRowV R hR n0
  have rb1048576 := hR 1048576; exact entRemI (k := .u8) (a := (R 1048576)) (b := 16) (c := 5) rfl rfl (by omega) (by rw [Int.tmod_eq_emod_of_nonneg (by omega)]; omega)
def qfRows76 : Ent := .bin .quo (.chan (some 1048576)) (.int .u8 16) (.chan (some 48))
theorem qfRows76_ok (R : Nat → Int) (hR : ∀ j, 0 ≤ R j ∧ R j ≤ 255) (n0 : Nat) (hb : qfRowB n0) : @EntOK (qfRowV R hR n0) Try.prog qfRows76 := by
  letI : Env := qfRowV R hR n0
  have rb1048576 := hR 1048576; exact entQuoV (k := .u8) (a := (R 1048576)) (b := 16) (c := ((R 1048576) / 16)) rfl rfl rfl (by omega) (by rw [Int.tdiv_eq_ediv_of_nonneg (by omega)]; exact IntWalk.u8_in _ (by omega))
def qfRows77 : Ent := .bin .neq (.chan (some 48)) (.int .u8 4) (.bool true)
theorem qfRows77_ok (R : Nat → Int) (hR : ∀ j, 0 ≤ R j ∧ R j ≤ 255) (n0 : Nat) (hb : qfRowB n0) (hc : ¬ (((R 1048576) / 16) = 4)) : @EntOK (qfRowV R hR n0) Try.prog qfRows77 := by
  letI : Env := qfRowV R hR n0
  have rb1048576 := hR 1048576; exact entCmp (k := .u8) (a := ((R 1048576) / 16)) (b := 4) rfl rfl (by show some ((((R 1048576) / 16) : Int) != 4) = some true; rw [bne_iff_ne.2 (by omega)])
def qfRows78 : Ent := .bin .and (.chan (some 3)) (.int .i64 15) (.int .i64 0)
theorem qfRows78_ok (R : Nat → Int) (hR : ∀ j, 0 ≤ R j ∧ R j ≤ 255) (n0 : Nat) (hb : qfRowB n0) (hc : ((R 1048576) % 16) = 0) : @EntOK (qfRowV R hR n0) Try.prog qfRows78 := by
  letI : Env := qfRowV R hR n0
  have rb1048576 := hR 1048576; exact entAndI (k := .i64) (a := (R 1048576)) (b := 15) (c := 0) rfl rfl (by rw [show band .i64 (R 1048576) 15 = ((R 1048576) % 16) from (by exact mask_i64 (R 1048576) 4 15 16 (by decide) (by decide) (by decide))]; omega)
def qfRows79 : Ent := .bin .neq (.chan (some 47)) (.int .i64 4) (.bool false)
theorem qfRows79_ok (R : Nat → Int) (hR : ∀ j, 0 ≤ R j ∧ R j ≤ 255) (n0 : Nat) (hb : qfRowB n0) (hc : ((R 1048576) / 16) = 4) : @EntOK (qfRowV R hR n0) Try.prog qfRows79 := by
  letI : Env := qfRowV R hR n0
  have rb1048576 := hR 1048576; exact entCmp (k := .i64) (a := ((R 1048576) / 16)) (b := 4) rfl rfl (by show some ((((R 1048576) / 16) : Int) != 4) = some false; rw [bne_eq_false_iff_eq.2 (by omega)])
def qfRows80 : Ent := .bin .rem (.chan (some 1048576)) (.int .u8 16) (.int .u8 0)
theorem qfRows80_ok (R : Nat → Int) (hR : ∀ j, 0 ≤ R j ∧ R j ≤ 255) (n0 : Nat) (hb : qfRowB n0) (hc : ((R 1048576) % 16) = 0) : @EntOK (qfRowV R hR n0) Try.prog qfRows80 := by
  letI : Env := qfRowV R hR n0
  have rb1048576 := hR 1048576; exact entRemI (k := .u8) (a := (R 1048576)) (b := 16) (c := 0) rfl rfl (by omega) (by rw [Int.tmod_eq_emod_of_nonneg (by omega)]; omega)
def qfRows81 : Ent := .bin .neq (.chan (some 48)) (.int .u8 4) (.bool false)
theorem qfRows81_ok (R : Nat → Int) (hR : ∀ j, 0 ≤ R j ∧ R j ≤ 255) (n0 : Nat) (hb : qfRowB n0) (hc : ((R 1048576) / 16) = 4) : @EntOK (qfRowV R hR n0) Try.prog qfRows81 := by
  letI : Env := qfRowV R hR n0
  have rb1048576 := hR 1048576; exact entCmp (k := .u8) (a := ((R 1048576) / 16)) (b := 4) rfl rfl (by show some ((((R 1048576) / 16) : Int) != 4) = some false; rw [bne_eq_false_iff_eq.2 (by omega)])
def qfRows82 : Ent := .bin .and (.chan (some 3)) (.int .i64 15) (.int .i64 1)
theorem qfRows82_ok (R : Nat → Int) (hR : ∀ j, 0 ≤ R j ∧ R j ≤ 255) (n0 : Nat) (hb : qfRowB n0) (hc : ((R 1048576) % 16) = 1) : @EntOK (qfRowV R hR n0) Try.prog qfRows82 := by
  letI : Env := qfRowV R hR n0
  have rb1048576 := hR 1048576; exact entAndI (k := .i64) (a := (R 1048576)) (b := 15) (c := 1) rfl rfl (by rw [show band .i64 (R 1048576) 15 = ((R 1048576) % 16) from (by exact mask_i64 (R 1048576) 4 15 16 (by decide) (by decide) (by decide))]; omega)
def qfRows83 : Ent := .bin .rem (.chan (some 1048576)) (.int .u8 16) (.int .u8 1)
theorem qfRows83_ok (R : Nat → Int) (hR : ∀ j, 0 ≤ R j ∧ R j ≤ 255) (n0 : Nat) (hb : qfRowB n0) (hc : ((R 1048576) % 16) = 1) : @EntOK (qfRowV R hR n0) Try.prog qfRows83 := by
  letI : Env := qfRowV R hR n0
  have rb1048576 := hR 1048576; exact entRemI (k := .u8) (a := (R 1048576)) (b := 16) (c := 1) rfl rfl (by omega) (by rw [Int.tmod_eq_emod_of_nonneg (by omega)]; omega)
def qfRows84 : Ent := .bin .and (.chan (some 3)) (.int .i64 15) (.int .i64 2)
theorem qfRows84_ok (R : Nat → Int) (hR : ∀ j, 0 ≤ R j ∧ R j ≤ 255) (n0 : Nat) (hb : qfRowB n0) (hc : ((R 1048576) % 16) = 2) : @EntOK (qfRowV R hR n0) Try.prog qfRows84 := by
  letI : Env := qfRowV R hR n0
  have rb1048576 := hR 1048576; exact entAndI (k := .i64) (a := (R 1048576)) (b := 15) (c := 2) rfl rfl (by rw [show band .i64 (R 1048576) 15 = ((R 1048576) % 16) from (by exact mask_i64 (R 1048576) 4 15 16 (by decide) (by decide) (by decide))]; omega)
def qfRows85 : Ent := .bin .rem (.chan (some 1048576)) (.int .u8 16) (.int .u8 2)
theorem qfRows85_ok (R : Nat → Int) (hR : ∀ j, 0 ≤ R j ∧ R j ≤ 255) (n0 : Nat) (hb : qfRowB n0) (hc : ((R 1048576) % 16) = 2) : @EntOK (qfRowV R hR n0) Try.prog qfRows85 := by
  letI : Env := qfRowV R hR n0
  have rb1048576 := hR 1048576; exact entRemI (k := .u8) (a := (R 1048576)) (b := 16) (c := 2) rfl rfl (by omega) (by rw [Int.tmod_eq_emod_of_nonneg (by omega)]; omega)
def qfRows86 : Ent := .bin .and (.chan (some 3)) (.int .i64 15) (.int .i64 3)
theorem qfRows86_ok (R : Nat → Int) (hR : ∀ j, 0 ≤ R j ∧ R j ≤ 255) (n0 : Nat) (hb : qfRowB n0) (hc : ((R 1048576) % 16) = 3) : @EntOK (qfRowV R hR n0) Try.prog qfRows86 := by
  letI : Env := qfRowV R hR n0
  have rb1048576 := hR 1048576; exact entAndI (k := .i64) (a := (R 1048576)) (b := 15) (c := 3) rfl rfl (by rw [show band .i64 (R 1048576) 15 = ((R 1048576) % 16) from (by exact mask_i64 (R 1048576) 4 15 16 (by decide) (by decide) (by decide))]; omega)
def qfRows87 : Ent := .bin .rem (.chan (some 1048576)) (.int .u8 16) (.int .u8 3)
theorem qfRows87_ok (R : Nat → Int) (hR : ∀ j, 0 ≤ R j ∧ R j ≤ 255) (n0 : Nat) (hb : qfRowB n0) (hc : ((R 1048576) % 16) = 3) : @EntOK (qfRowV R hR n0) Try.prog qfRows87 := by
  letI : Env := qfRowV R hR n0
  have rb1048576 := hR 1048576; exact entRemI (k := .u8) (a := (R 1048576)) (b := 16) (c := 3) rfl rfl (by omega) (by rw [Int.tmod_eq_emod_of_nonneg (by omega)]; omega)
def qfRows88 : Ent := .bin .and (.chan (some 3)) (.int .i64 15) (.int .i64 4)
theorem qfRows88_ok (R : Nat → Int) (hR : ∀ j, 0 ≤ R j ∧ R j ≤ 255) (n0 : Nat) (hb : qfRowB n0) (hc : ((R 1048576) % 16) = 4) : @EntOK (qfRowV R hR n0) Try.prog qfRows88 := by
  letI : Env := qfRowV R hR n0
  have rb1048576 := hR 1048576; exact entAndI (k := .i64) (a := (R 1048576)) (b := 15) (c := 4) rfl rfl (by rw [show band .i64 (R 1048576) 15 = ((R 1048576) % 16) from (by exact mask_i64 (R 1048576) 4 15 16 (by decide) (by decide) (by decide))]; omega)
def qfRows89 : Ent := .bin .rem (.chan (some 1048576)) (.int .u8 16) (.int .u8 4)
theorem qfRows89_ok (R : Nat → Int) (hR : ∀ j, 0 ≤ R j ∧ R j ≤ 255) (n0 : Nat) (hb : qfRowB n0) (hc : ((R 1048576) % 16) = 4) : @EntOK (qfRowV R hR n0) Try.prog qfRows89 := by
  letI : Env := qfRowV R hR n0
  have rb1048576 := hR 1048576; exact entRemI (k := .u8) (a := (R 1048576)) (b := 16) (c := 4) rfl rfl (by omega) (by rw [Int.tmod_eq_emod_of_nonneg (by omega)]; omega)
def qfRows90 : Ent := .bin .eql (.chan (some 17)) (.int .i64 17) (.bool true)
theorem qfRows90_ok (R : Nat → Int) (hR : ∀ j, 0 ≤ R j ∧ R j ≤ 255) (n0 : Nat) (hb : qfRowB n0) (hc : (R 1048585) = 17) : @EntOK (qfRowV R hR n0) Try.prog qfRows90 := by
  letI : Env := qfRowV R hR n0
  have rb1048585 := hR 1048585; exact entCmp (k := .i64) (a := (R 1048585)) (b := 17) rfl rfl (by show some (((R 1048585) : Int) == 17) = some true; rw [beq_iff_eq.2 (by omega)])
def qfRows91 : Ent := .bin .eql (.chan (some 11)) (.int .i64 0) (.bool true)
theorem qfRows91_ok (R : Nat → Int) (hR : ∀ j, 0 ≤ R j ∧ R j ≤ 255) (n0 : Nat) (hb : qfRowB n0) (hc : ((((R 1048582) * 256) + (R 1048583)) % 8192) = 0) : @EntOK (qfRowV R hR n0) Try.prog qfRows91 := by
  letI : Env := qfRowV R hR n0
  have rb1048582 := hR 1048582; have rb1048583 := hR 1048583; exact entCmp (k := .i64) (a := ((((R 1048582) * 256) + (R 1048583)) % 8192)) (b := 0) rfl rfl (by show some ((((((R 1048582) * 256) + (R 1048583)) % 8192) : Int) == 0) = some true; rw [beq_iff_eq.2 (by omega)])
def qfRows92 : Ent := .bin .geq (.chan (some 35)) (.int .i64 4) (.bool false)
theorem qfRows92_ok (R : Nat → Int) (hR : ∀ j, 0 ≤ R j ∧ R j ≤ 255) (n0 : Nat) (hb : qfRowB n0) (hc : ¬ (((n0 : Int) - 20) ≥ 4)) : @EntOK (qfRowV R hR n0) Try.prog qfRows92 := by
  letI : Env := qfRowV R hR n0
  exact entCmp (k := .i64) (a := ((n0 : Int) - 20)) (b := 4) rfl rfl (by show some (decide ((((n0 : Int) - 20) : Int) ≥ 4)) = some false; rw [decide_eq_false (by omega)])
def qfRows93 : Ent := .bin .gtr (.int .i64 20) (.chan (some 0)) (.bool false)
theorem qfRows93_ok (R : Nat → Int) (hR : ∀ j, 0 ≤ R j ∧ R j ≤ 255) (n0 : Nat) (hb : qfRowB n0) (hc : ¬ ((20 : Int) > (n0 : Int))) : @EntOK (qfRowV R hR n0) Try.prog qfRows93 := by
  letI : Env := qfRowV R hR n0
  exact entCmp (k := .i64) (a := 20) (b := (n0 : Int)) rfl rfl (by show some (decide ((20 : Int) > (n0 : Int))) = some false; rw [decide_eq_false (by omega)])
def qfRows94 : Ent := .conv .i64 (.chan (some 1048585)) (.chan (some 17))
theorem qfRows94_ok (R : Nat → Int) (hR : ∀ j, 0 ≤ R j ∧ R j ≤ 255) (n0 : Nat) (hb : qfRowB n0) : @EntOK (qfRowV R hR n0) Try.prog qfRows94 := by
  letI : Env := qfRowV R hR n0
  have rb1048585 := hR 1048585; exact entConvV (k := .i64) (l := .u8) (a := (R 1048585)) (c := (R 1048585)) rfl rfl (by rw [IntWalk.i64_in _ (by omega)])
def qfRows95 : Ent := .bin .shl (.chan (some 25)) (.int .u64 24) (.chan (some 49))
theorem qfRows95_ok (R : Nat → Int) (hR : ∀ j, 0 ≤ R j ∧ R j ≤ 255) (n0 : Nat) (hb : qfRowB n0) : @EntOK (qfRowV R hR n0) Try.prog qfRows95 := by
  letI : Env := qfRowV R hR n0
  have rb1048588 := hR 1048588; exact entShlV (k := .u32) (l := .u64) (a := (R 1048588)) (c := ((R 1048588) * 16777216)) (s := 24) rfl rfl rfl (by decide) (by show IntKind.u32.wrap ((R 1048588) * 2 ^ 24) = ((R 1048588) * 16777216); rw [show ((2 : Int) ^ 24) = 16777216 from by decide, IntWalk.u32_in _ (by omega)])
def qfRows96 : Ent := .bin .shl (.chan (some 27)) (.int .u64 16) (.chan (some 50))
theorem qfRows96_ok (R : Nat → Int) (hR : ∀ j, 0 ≤ R j ∧ R j ≤ 255) (n0 : Nat) (hb : qfRowB n0) : @EntOK (qfRowV R hR n0) Try.prog qfRows96 := by
  letI : Env := qfRowV R hR n0
  have rb1048589 := hR 1048589; exact entShlV (k := .u32) (l := .u64) (a := (R 1048589)) (c := ((R 1048589) * 65536)) (s := 16) rfl rfl rfl (by decide) (by show IntKind.u32.wrap ((R 1048589) * 2 ^ 16) = ((R 1048589) * 65536); rw [show ((2 : Int) ^ 16) = 65536 from by decide, IntWalk.u32_in _ (by omega)])
def qfRows97 : Ent := .bin .or (.chan (some 49)) (.chan (some 50)) (.chan (some 51))
theorem qfRows97_ok (R : Nat → Int) (hR : ∀ j, 0 ≤ R j ∧ R j ≤ 255) (n0 : Nat) (hb : qfRowB n0) : @EntOK (qfRowV R hR n0) Try.prog qfRows97 := by
  letI : Env := qfRowV R hR n0
  have rb1048588 := hR 1048588; have rb1048589 := hR 1048589; exact entOrV (k := .u32) (a := ((R 1048588) * 16777216)) (b := ((R 1048589) * 65536)) (c := (((R 1048588) * 16777216) + ((R 1048589) * 65536))) rfl rfl rfl (by exact join_u32 (R 1048588) ((R 1048589) * 65536) 24 16777216 (by decide) (by omega) (by omega) (by omega) (by omega))
def qfRows98 : Ent := .bin .shl (.chan (some 30)) (.int .u64 8) (.chan (some 52))
theorem qfRows98_ok (R : Nat → Int) (hR : ∀ j, 0 ≤ R j ∧ R j ≤ 255) (n0 : Nat) (hb : qfRowB n0) : @EntOK (qfRowV R hR n0) Try.prog qfRows98 := by
  letI : Env := qfRowV R hR n0
  have rb1048590 := hR 1048590; exact entShlV (k := .u32) (l := .u64) (a := (R 1048590)) (c := ((R 1048590) * 256)) (s := 8) rfl rfl rfl (by decide) (by show IntKind.u32.wrap ((R 1048590) * 2 ^ 8) = ((R 1048590) * 256); rw [show ((2 : Int) ^ 8) = 256 from by decide, IntWalk.u32_in _ (by omega)])
def qfRows99 : Ent := .bin .or (.chan (some 51)) (.chan (some 52)) (.chan (some 53))
theorem qfRows99_ok (R : Nat → Int) (hR : ∀ j, 0 ≤ R j ∧ R j ≤ 255) (n0 : Nat) (hb : qfRowB n0) : @EntOK (qfRowV R hR n0) Try.prog qfRows99 := by
  letI : Env := qfRowV R hR n0
  have rb1048588 := hR 1048588; have rb1048589 := hR 1048589; have rb1048590 := hR 1048590; exact entOrV (k := .u32) (a := (((R 1048588) * 16777216) + ((R 1048589) * 65536))) (b := ((R 1048590) * 256)) (c := ((((R 1048588) * 16777216) + ((R 1048589) * 65536)) + ((R 1048590) * 256))) rfl rfl rfl (by have h := join_u32 ((R 1048588) * 256 + (R 1048589)) ((R 1048590) * 256) 16 65536 (by decide) (by omega) (by omega) (by omega) (by omega); rw [show ((((R 1048588) * 16777216) + ((R 1048589) * 65536)) : Int) = ((R 1048588) * 256 + (R 1048589)) * (65536 : Nat) from by omega]; rw [h])
def qfRows100 : Ent := .bin .or (.chan (some 53)) (.chan (some 33)) (.chan (some 54))
theorem qfRows100_ok (R : Nat → Int) (hR : ∀ j, 0 ≤ R j ∧ R j ≤ 255) (n0 : Nat) (hb : qfRowB n0) : @EntOK (qfRowV R hR n0) Try.prog qfRows100 := by
  letI : Env := qfRowV R hR n0
  have rb1048588 := hR 1048588; have rb1048589 := hR 1048589; have rb1048590 := hR 1048590; have rb1048591 := hR 1048591; exact entOrV (k := .u32) (a := ((((R 1048588) * 16777216) + ((R 1048589) * 65536)) + ((R 1048590) * 256))) (b := (R 1048591)) (c := (((((R 1048588) * 16777216) + ((R 1048589) * 65536)) + ((R 1048590) * 256)) + (R 1048591))) rfl rfl rfl (by have h := join_u32 (((R 1048588) * 256 + (R 1048589)) * 256 + (R 1048590)) (R 1048591) 8 256 (by decide) (by omega) (by omega) (by omega) (by omega); rw [show (((((R 1048588) * 16777216) + ((R 1048589) * 65536)) + ((R 1048590) * 256)) : Int) = (((R 1048588) * 256 + (R 1048589)) * 256 + (R 1048590)) * (256 : Nat) from by omega]; rw [h])
def qfRows101 : Ent := .bin .shl (.chan (some 36)) (.int .u64 24) (.chan (some 55))
theorem qfRows101_ok (R : Nat → Int) (hR : ∀ j, 0 ≤ R j ∧ R j ≤ 255) (n0 : Nat) (hb : qfRowB n0) : @EntOK (qfRowV R hR n0) Try.prog qfRows101 := by
  letI : Env := qfRowV R hR n0
  have rb1048592 := hR 1048592; exact entShlV (k := .u32) (l := .u64) (a := (R 1048592)) (c := ((R 1048592) * 16777216)) (s := 24) rfl rfl rfl (by decide) (by show IntKind.u32.wrap ((R 1048592) * 2 ^ 24) = ((R 1048592) * 16777216); rw [show ((2 : Int) ^ 24) = 16777216 from by decide, IntWalk.u32_in _ (by omega)])
def qfRows102 : Ent := .bin .shl (.chan (some 38)) (.int .u64 16) (.chan (some 56))
theorem qfRows102_ok (R : Nat → Int) (hR : ∀ j, 0 ≤ R j ∧ R j ≤ 255) (n0 : Nat) (hb : qfRowB n0) : @EntOK (qfRowV R hR n0) Try.prog qfRows102 := by
  letI : Env := qfRowV R hR n0
  have rb1048593 := hR 1048593; exact entShlV (k := .u32) (l := .u64) (a := (R 1048593)) (c := ((R 1048593) * 65536)) (s := 16) rfl rfl rfl (by decide) (by show IntKind.u32.wrap ((R 1048593) * 2 ^ 16) = ((R 1048593) * 65536); rw [show ((2 : Int) ^ 16) = 65536 from by decide, IntWalk.u32_in _ (by omega)])
def qfRows103 : Ent := .bin .or (.chan (some 55)) (.chan (some 56)) (.chan (some 57))
theorem qfRows103_ok (R : Nat → Int) (hR : ∀ j, 0 ≤ R j ∧ R j ≤ 255) (n0 : Nat) (hb : qfRowB n0) : @EntOK (qfRowV R hR n0) Try.prog qfRows103 := by
  letI : Env := qfRowV R hR n0
  have rb1048592 := hR 1048592; have rb1048593 := hR 1048593; exact entOrV (k := .u32) (a := ((R 1048592) * 16777216)) (b := ((R 1048593) * 65536)) (c := (((R 1048592) * 16777216) + ((R 1048593) * 65536))) rfl rfl rfl (by exact join_u32 (R 1048592) ((R 1048593) * 65536) 24 16777216 (by decide) (by omega) (by omega) (by omega) (by omega))
def qfRows104 : Ent := .bin .shl (.chan (some 41)) (.int .u64 8) (.chan (some 58))
theorem qfRows104_ok (R : Nat → Int) (hR : ∀ j, 0 ≤ R j ∧ R j ≤ 255) (n0 : Nat) (hb : qfRowB n0) : @EntOK (qfRowV R hR n0) Try.prog qfRows104 := by
  letI : Env := qfRowV R hR n0
  have rb1048594 := hR 1048594; exact entShlV (k := .u32) (l := .u64) (a := (R 1048594)) (c := ((R 1048594) * 256)) (s := 8) rfl rfl rfl (by decide) (by show IntKind.u32.wrap ((R 1048594) * 2 ^ 8) = ((R 1048594) * 256); rw [show ((2 : Int) ^ 8) = 256 from by decide, IntWalk.u32_in _ (by omega)])
def qfRows105 : Ent := .bin .or (.chan (some 57)) (.chan (some 58)) (.chan (some 59))
theorem qfRows105_ok (R : Nat → Int) (hR : ∀ j, 0 ≤ R j ∧ R j ≤ 255) (n0 : Nat) (hb : qfRowB n0) : @EntOK (qfRowV R hR n0) Try.prog qfRows105 := by
  letI : Env := qfRowV R hR n0
  have rb1048592 := hR 1048592; have rb1048593 := hR 1048593; have rb1048594 := hR 1048594; exact entOrV (k := .u32) (a := (((R 1048592) * 16777216) + ((R 1048593) * 65536))) (b := ((R 1048594) * 256)) (c := ((((R 1048592) * 16777216) + ((R 1048593) * 65536)) + ((R 1048594) * 256))) rfl rfl rfl (by have h := join_u32 ((R 1048592) * 256 + (R 1048593)) ((R 1048594) * 256) 16 65536 (by decide) (by omega) (by omega) (by omega) (by omega); rw [show ((((R 1048592) * 16777216) + ((R 1048593) * 65536)) : Int) = ((R 1048592) * 256 + (R 1048593)) * (65536 : Nat) from by omega]; rw [h])
def qfRows106 : Ent := .bin .or (.chan (some 59)) (.chan (some 44)) (.chan (some 60))
theorem qfRows106_ok (R : Nat → Int) (hR : ∀ j, 0 ≤ R j ∧ R j ≤ 255) (n0 : Nat) (hb : qfRowB n0) : @EntOK (qfRowV R hR n0) Try.prog qfRows106 := by
  letI : Env := qfRowV R hR n0
  have rb1048592 := hR 1048592; have rb1048593 := hR 1048593; have rb1048594 := hR 1048594; have rb1048595 := hR 1048595; exact entOrV (k := .u32) (a := ((((R 1048592) * 16777216) + ((R 1048593) * 65536)) + ((R 1048594) * 256))) (b := (R 1048595)) (c := (((((R 1048592) * 16777216) + ((R 1048593) * 65536)) + ((R 1048594) * 256)) + (R 1048595))) rfl rfl rfl (by have h := join_u32 (((R 1048592) * 256 + (R 1048593)) * 256 + (R 1048594)) (R 1048595) 8 256 (by decide) (by omega) (by omega) (by omega) (by omega); rw [show (((((R 1048592) * 16777216) + ((R 1048593) * 65536)) + ((R 1048594) * 256)) : Int) = (((R 1048592) * 256 + (R 1048593)) * 256 + (R 1048594)) * (256 : Nat) from by omega]; rw [h])
def qfRows107 : Ent := .bin .eql (.chan (some 17)) (.int .i64 6) (.bool false)
theorem qfRows107_ok (R : Nat → Int) (hR : ∀ j, 0 ≤ R j ∧ R j ≤ 255) (n0 : Nat) (hb : qfRowB n0) (hc : ¬ ((R 1048585) = 6)) : @EntOK (qfRowV R hR n0) Try.prog qfRows107 := by
  letI : Env := qfRowV R hR n0
  have rb1048585 := hR 1048585; exact entCmp (k := .i64) (a := (R 1048585)) (b := 6) rfl rfl (by show some (((R 1048585) : Int) == 6) = some false; rw [beq_eq_false_iff_ne.2 (by omega)])
def qfRows108 : Ent := .bin .geq (.chan (some 0)) (.int .i64 24) (.bool false)
theorem qfRows108_ok (R : Nat → Int) (hR : ∀ j, 0 ≤ R j ∧ R j ≤ 255) (n0 : Nat) (hb : qfRowB n0) (hc : ¬ ((n0 : Int) ≥ 24)) : @EntOK (qfRowV R hR n0) Try.prog qfRows108 := by
  letI : Env := qfRowV R hR n0
  exact entCmp (k := .i64) (a := (n0 : Int)) (b := 24) rfl rfl (by show some (decide (((n0 : Int) : Int) ≥ 24)) = some false; rw [decide_eq_false (by omega)])
def qfRows109 : Ent := .eqs false 50 [.chan (some 17), .chan (some 34), .int .i64 0, .chan (some 45), .int .i64 0] [.chan (some 17), .chan (some 54), .int .i64 0, .chan (some 60), .int .i64 0] true
theorem qfRows109_ok (R : Nat → Int) (hR : ∀ j, 0 ≤ R j ∧ R j ≤ 255) (n0 : Nat) (hb : qfRowB n0) : @EntOK (qfRowV R hR n0) Try.prog qfRows109 := by
  letI : Env := qfRowV R hR n0
  have rb1048588 := hR 1048588; have rb1048589 := hR 1048589; have rb1048590 := hR 1048590; have rb1048591 := hR 1048591; have rb1048592 := hR 1048592; have rb1048593 := hR 1048593; have rb1048594 := hR 1048594; have rb1048595 := hR 1048595; exact ⟨by intro v hv; simp only [List.mem_cons, List.not_mem_nil, or_false] at hv; rcases hv with rfl | rfl | rfl | rfl | rfl <;> first | exact .inl ⟨_, _, rfl⟩ | exact .inr ⟨_, rfl⟩, by intro v hv; simp only [List.mem_cons, List.not_mem_nil, or_false] at hv; rcases hv with rfl | rfl | rfl | rfl | rfl <;> first | exact .inl ⟨_, _, rfl⟩ | exact .inr ⟨_, rfl⟩, by intro a1 a2 w; have e0 : (((((((R 1048588) * 256) + (R 1048589)) * 256) + (R 1048590)) * 256) + (R 1048591)) = (((((R 1048588) * 16777216) + ((R 1048589) * 65536)) + ((R 1048590) * 256)) + (R 1048591)) := (by omega); have e1 : (((((((R 1048592) * 256) + (R 1048593)) * 256) + (R 1048594)) * 256) + (R 1048595)) = (((((R 1048592) * 16777216) + ((R 1048593) * 65536)) + ((R 1048594) * 256)) + (R 1048595)) := (by omega); exact eqFlow _ _ _ _ _ _ _ _ _ _ (by omega) (by omega) (by omega) (by omega) (by omega) a1 a2 w⟩
def qfRows110 : Ent := .bin .geq (.chan (some 35)) (.int .i64 4) (.bool true)
theorem qfRows110_ok (R : Nat → Int) (hR : ∀ j, 0 ≤ R j ∧ R j ≤ 255) (n0 : Nat) (hb : qfRowB n0) (hc : ((n0 : Int) - 20) ≥ 4) : @EntOK (qfRowV R hR n0) Try.prog qfRows110 := by
  letI : Env := qfRowV R hR n0
  exact entCmp (k := .i64) (a := ((n0 : Int) - 20)) (b := 4) rfl rfl (by show some (decide ((((n0 : Int) - 20) : Int) ≥ 4)) = some true; rw [decide_eq_true (by omega)])
def qfRows111 : Ent := .bin .gtr (.int .i64 2) (.chan (some 35)) (.bool false)
theorem qfRows111_ok (R : Nat → Int) (hR : ∀ j, 0 ≤ R j ∧ R j ≤ 255) (n0 : Nat) (hb : qfRowB n0) (hc : ¬ ((2 : Int) > ((n0 : Int) - 20))) : @EntOK (qfRowV R hR n0) Try.prog qfRows111 := by
  letI : Env := qfRowV R hR n0
  exact entCmp (k := .i64) (a := 2) (b := ((n0 : Int) - 20)) rfl rfl (by show some (decide ((2 : Int) > ((n0 : Int) - 20))) = some false; rw [decide_eq_false (by omega)])
def qfRows112 : Ent := .slen 0 45 (.chan (some 61))
theorem qfRows112_ok (R : Nat → Int) (hR : ∀ j, 0 ≤ R j ∧ R j ≤ 255) (n0 : Nat) (hb : qfRowB n0) (hc : 22 ≤ n0) : @EntOK (qfRowV R hR n0) Try.prog qfRows112 := by
  letI : Env := qfRowV R hR n0
  exact entSlen (n := n0) (j := 61) (c := ((n0 : Int) - 22)) rfl rfl (by simp; try omega) (by first | exact .inl rfl | (right; omega))
def qfRows113 : Ent := .conv .u32 (.chan (some 1048596)) (.chan (some 62))
theorem qfRows113_ok (R : Nat → Int) (hR : ∀ j, 0 ≤ R j ∧ R j ≤ 255) (n0 : Nat) (hb : qfRowB n0) : @EntOK (qfRowV R hR n0) Try.prog qfRows113 := by
  letI : Env := qfRowV R hR n0
  have rb1048596 := hR 1048596; exact entConvV (k := .u32) (l := .u8) (a := (R 1048596)) (c := (R 1048596)) rfl rfl (by rw [IntWalk.u32_in _ (by omega)])
def qfRows114 : Ent := .bin .or (.int .u32 0) (.chan (some 62)) (.chan (some 62))
theorem qfRows114_ok (R : Nat → Int) (hR : ∀ j, 0 ≤ R j ∧ R j ≤ 255) (n0 : Nat) (hb : qfRowB n0) : @EntOK (qfRowV R hR n0) Try.prog qfRows114 := by
  letI : Env := qfRowV R hR n0
  have rb1048596 := hR 1048596; exact entOrV (k := .u32) (a := 0) (b := (R 1048596)) (c := (R 1048596)) rfl rfl rfl (by have h := join_u32 0 (R 1048596) 8 256 (by decide) (by omega) (by omega) (by omega) (by omega); simpa using h)
def qfRows115 : Ent := .bin .shl (.chan (some 62)) (.int .u64 8) (.chan (some 63))
theorem qfRows115_ok (R : Nat → Int) (hR : ∀ j, 0 ≤ R j ∧ R j ≤ 255) (n0 : Nat) (hb : qfRowB n0) : @EntOK (qfRowV R hR n0) Try.prog qfRows115 := by
  letI : Env := qfRowV R hR n0
  have rb1048596 := hR 1048596; exact entShlV (k := .u32) (l := .u64) (a := (R 1048596)) (c := ((R 1048596) * 256)) (s := 8) rfl rfl rfl (by decide) (by show IntKind.u32.wrap ((R 1048596) * 2 ^ 8) = ((R 1048596) * 256); rw [show ((2 : Int) ^ 8) = 256 from by decide, IntWalk.u32_in _ (by omega)])
def qfRows116 : Ent := .conv .u32 (.chan (some 1048597)) (.chan (some 64))
theorem qfRows116_ok (R : Nat → Int) (hR : ∀ j, 0 ≤ R j ∧ R j ≤ 255) (n0 : Nat) (hb : qfRowB n0) : @EntOK (qfRowV R hR n0) Try.prog qfRows116 := by
  letI : Env := qfRowV R hR n0
  have rb1048597 := hR 1048597; exact entConvV (k := .u32) (l := .u8) (a := (R 1048597)) (c := (R 1048597)) rfl rfl (by rw [IntWalk.u32_in _ (by omega)])
def qfRows117 : Ent := .bin .or (.chan (some 63)) (.chan (some 64)) (.chan (some 65))
theorem qfRows117_ok (R : Nat → Int) (hR : ∀ j, 0 ≤ R j ∧ R j ≤ 255) (n0 : Nat) (hb : qfRowB n0) : @EntOK (qfRowV R hR n0) Try.prog qfRows117 := by
  letI : Env := qfRowV R hR n0
  have rb1048596 := hR 1048596; have rb1048597 := hR 1048597; exact entOrV (k := .u32) (a := ((R 1048596) * 256)) (b := (R 1048597)) (c := (((R 1048596) * 256) + (R 1048597))) rfl rfl rfl (by exact join_u32 (R 1048596) (R 1048597) 8 256 (by decide) (by omega) (by omega) (by omega) (by omega))
def qfRows118 : Ent := .conv .i64 (.chan (some 65)) (.chan (some 66))
theorem qfRows118_ok (R : Nat → Int) (hR : ∀ j, 0 ≤ R j ∧ R j ≤ 255) (n0 : Nat) (hb : qfRowB n0) : @EntOK (qfRowV R hR n0) Try.prog qfRows118 := by
  letI : Env := qfRowV R hR n0
  have rb1048596 := hR 1048596; have rb1048597 := hR 1048597; exact entConvV (k := .i64) (l := .u32) (a := (((R 1048596) * 256) + (R 1048597))) (c := (((R 1048596) * 256) + (R 1048597))) rfl rfl (by rw [IntWalk.i64_in _ (by omega)])
def qfRows119 : Ent := .bin .gtr (.int .i64 2) (.chan (some 61)) (.bool false)
theorem qfRows119_ok (R : Nat → Int) (hR : ∀ j, 0 ≤ R j ∧ R j ≤ 255) (n0 : Nat) (hb : qfRowB n0) (hc : ¬ (2 > ((n0 : Int) - 22))) : @EntOK (qfRowV R hR n0) Try.prog qfRows119 := by
  letI : Env := qfRowV R hR n0
  exact entCmp (k := .i64) (a := 2) (b := ((n0 : Int) - 22)) rfl rfl (by show some (decide ((2 : Int) > ((n0 : Int) - 22))) = some false; rw [decide_eq_false (by omega)])
def qfRows120 : Ent := .slen 0 49 (.chan (some 67))
theorem qfRows120_ok (R : Nat → Int) (hR : ∀ j, 0 ≤ R j ∧ R j ≤ 255) (n0 : Nat) (hb : qfRowB n0) (hc : 24 ≤ n0) : @EntOK (qfRowV R hR n0) Try.prog qfRows120 := by
  letI : Env := qfRowV R hR n0
  exact entSlen (n := n0) (j := 67) (c := ((n0 : Int) - 24)) rfl rfl (by simp; try omega) (by first | exact .inl rfl | (right; omega))
def qfRows121 : Ent := .conv .u32 (.chan (some 1048598)) (.chan (some 68))
theorem qfRows121_ok (R : Nat → Int) (hR : ∀ j, 0 ≤ R j ∧ R j ≤ 255) (n0 : Nat) (hb : qfRowB n0) : @EntOK (qfRowV R hR n0) Try.prog qfRows121 := by
  letI : Env := qfRowV R hR n0
  have rb1048598 := hR 1048598; exact entConvV (k := .u32) (l := .u8) (a := (R 1048598)) (c := (R 1048598)) rfl rfl (by rw [IntWalk.u32_in _ (by omega)])
def qfRows122 : Ent := .bin .or (.int .u32 0) (.chan (some 68)) (.chan (some 68))
theorem qfRows122_ok (R : Nat → Int) (hR : ∀ j, 0 ≤ R j ∧ R j ≤ 255) (n0 : Nat) (hb : qfRowB n0) : @EntOK (qfRowV R hR n0) Try.prog qfRows122 := by
  letI : Env := qfRowV R hR n0
  have rb1048598 := hR 1048598; exact entOrV (k := .u32) (a := 0) (b := (R 1048598)) (c := (R 1048598)) rfl rfl rfl (by have h := join_u32 0 (R 1048598) 8 256 (by decide) (by omega) (by omega) (by omega) (by omega); simpa using h)
def qfRows123 : Ent := .bin .shl (.chan (some 68)) (.int .u64 8) (.chan (some 69))
theorem qfRows123_ok (R : Nat → Int) (hR : ∀ j, 0 ≤ R j ∧ R j ≤ 255) (n0 : Nat) (hb : qfRowB n0) : @EntOK (qfRowV R hR n0) Try.prog qfRows123 := by
  letI : Env := qfRowV R hR n0
  have rb1048598 := hR 1048598; exact entShlV (k := .u32) (l := .u64) (a := (R 1048598)) (c := ((R 1048598) * 256)) (s := 8) rfl rfl rfl (by decide) (by show IntKind.u32.wrap ((R 1048598) * 2 ^ 8) = ((R 1048598) * 256); rw [show ((2 : Int) ^ 8) = 256 from by decide, IntWalk.u32_in _ (by omega)])
def qfRows124 : Ent := .conv .u32 (.chan (some 1048599)) (.chan (some 70))
theorem qfRows124_ok (R : Nat → Int) (hR : ∀ j, 0 ≤ R j ∧ R j ≤ 255) (n0 : Nat) (hb : qfRowB n0) : @EntOK (qfRowV R hR n0) Try.prog qfRows124 := by
  letI : Env := qfRowV R hR n0
  have rb1048599 := hR 1048599; exact entConvV (k := .u32) (l := .u8) (a := (R 1048599)) (c := (R 1048599)) rfl rfl (by rw [IntWalk.u32_in _ (by omega)])
def qfRows125 : Ent := .bin .or (.chan (some 69)) (.chan (some 70)) (.chan (some 71))
theorem qfRows125_ok (R : Nat → Int) (hR : ∀ j, 0 ≤ R j ∧ R j ≤ 255) (n0 : Nat) (hb : qfRowB n0) : @EntOK (qfRowV R hR n0) Try.prog qfRows125 := by
  letI : Env := qfRowV R hR n0
  have rb1048598 := hR 1048598; have rb1048599 := hR 1048599; exact entOrV (k := .u32) (a := ((R 1048598) * 256)) (b := (R 1048599)) (c := (((R 1048598) * 256) + (R 1048599))) rfl rfl rfl (by exact join_u32 (R 1048598) (R 1048599) 8 256 (by decide) (by omega) (by omega) (by omega) (by omega))
def qfRows126 : Ent := .conv .i64 (.chan (some 71)) (.chan (some 72))
theorem qfRows126_ok (R : Nat → Int) (hR : ∀ j, 0 ≤ R j ∧ R j ≤ 255) (n0 : Nat) (hb : qfRowB n0) : @EntOK (qfRowV R hR n0) Try.prog qfRows126 := by
  letI : Env := qfRowV R hR n0
  have rb1048598 := hR 1048598; have rb1048599 := hR 1048599; exact entConvV (k := .i64) (l := .u32) (a := (((R 1048598) * 256) + (R 1048599))) (c := (((R 1048598) * 256) + (R 1048599))) rfl rfl (by rw [IntWalk.i64_in _ (by omega)])
def qfRows127 : Ent := .bin .geq (.chan (some 0)) (.int .i64 24) (.bool true)
theorem qfRows127_ok (R : Nat → Int) (hR : ∀ j, 0 ≤ R j ∧ R j ≤ 255) (n0 : Nat) (hb : qfRowB n0) (hc : (n0 : Int) ≥ 24) : @EntOK (qfRowV R hR n0) Try.prog qfRows127 := by
  letI : Env := qfRowV R hR n0
  exact entCmp (k := .i64) (a := (n0 : Int)) (b := 24) rfl rfl (by show some (decide (((n0 : Int) : Int) ≥ 24)) = some true; rw [decide_eq_true (by omega)])
def qfRows128 : Ent := .conv .i64 (.chan (some 1048582)) (.chan (some 73))
theorem qfRows128_ok (R : Nat → Int) (hR : ∀ j, 0 ≤ R j ∧ R j ≤ 255) (n0 : Nat) (hb : qfRowB n0) : @EntOK (qfRowV R hR n0) Try.prog qfRows128 := by
  letI : Env := qfRowV R hR n0
  have rb1048582 := hR 1048582; exact entConvV (k := .i64) (l := .u8) (a := (R 1048582)) (c := (R 1048582)) rfl rfl (by rw [IntWalk.i64_in _ (by omega)])
def qfRows129 : Ent := .bin .shl (.chan (some 73)) (.int .u64 8) (.chan (some 74))
theorem qfRows129_ok (R : Nat → Int) (hR : ∀ j, 0 ≤ R j ∧ R j ≤ 255) (n0 : Nat) (hb : qfRowB n0) : @EntOK (qfRowV R hR n0) Try.prog qfRows129 := by
  letI : Env := qfRowV R hR n0
  have rb1048582 := hR 1048582; exact entShlV (k := .i64) (l := .u64) (a := (R 1048582)) (c := ((R 1048582) * 256)) (s := 8) rfl rfl rfl (by decide) (by show IntKind.i64.wrap ((R 1048582) * 2 ^ 8) = ((R 1048582) * 256); rw [show ((2 : Int) ^ 8) = 256 from by decide, IntWalk.i64_in _ (by omega)])
def qfRows130 : Ent := .conv .i64 (.chan (some 1048583)) (.chan (some 75))
theorem qfRows130_ok (R : Nat → Int) (hR : ∀ j, 0 ≤ R j ∧ R j ≤ 255) (n0 : Nat) (hb : qfRowB n0) : @EntOK (qfRowV R hR n0) Try.prog qfRows130 := by
  letI : Env := qfRowV R hR n0
  have rb1048583 := hR 1048583; exact entConvV (k := .i64) (l := .u8) (a := (R 1048583)) (c := (R 1048583)) rfl rfl (by rw [IntWalk.i64_in _ (by omega)])
def qfRows131 : Ent := .bin .or (.chan (some 74)) (.chan (some 75)) (.chan (some 10))
theorem qfRows131_ok (R : Nat → Int) (hR : ∀ j, 0 ≤ R j ∧ R j ≤ 255) (n0 : Nat) (hb : qfRowB n0) : @EntOK (qfRowV R hR n0) Try.prog qfRows131 := by
  letI : Env := qfRowV R hR n0
  have rb1048582 := hR 1048582; have rb1048583 := hR 1048583; exact entOrV (k := .i64) (a := ((R 1048582) * 256)) (b := (R 1048583)) (c := (((R 1048582) * 256) + (R 1048583))) rfl rfl rfl (by exact join_i64 (R 1048582) (R 1048583) 8 256 (by decide) (by omega) (by omega) (by omega) (by omega))
def qfRows132 : Ent := .bin .rem (.chan (some 10)) (.int .i64 8192) (.chan (some 11))
theorem qfRows132_ok (R : Nat → Int) (hR : ∀ j, 0 ≤ R j ∧ R j ≤ 255) (n0 : Nat) (hb : qfRowB n0) : @EntOK (qfRowV R hR n0) Try.prog qfRows132 := by
  letI : Env := qfRowV R hR n0
  have rb1048582 := hR 1048582; have rb1048583 := hR 1048583; exact (by have h := entRem (P := Try.prog) (x := .chan (some 10)) (y := .int .i64 8192) (k := .i64) (a := (((R 1048582) * 256) + (R 1048583))) (b := 8192) (j := 11) rfl rfl (by rw [Int.tmod_eq_emod_of_nonneg (by omega)]; rfl) (by omega); exact h)
def qfRows133 : Ent := .conv .i64 (.chan (some 1048596)) (.chan (some 76))
theorem qfRows133_ok (R : Nat → Int) (hR : ∀ j, 0 ≤ R j ∧ R j ≤ 255) (n0 : Nat) (hb : qfRowB n0) : @EntOK (qfRowV R hR n0) Try.prog qfRows133 := by
  letI : Env := qfRowV R hR n0
  have rb1048596 := hR 1048596; exact entConvV (k := .i64) (l := .u8) (a := (R 1048596)) (c := (R 1048596)) rfl rfl (by rw [IntWalk.i64_in _ (by omega)])
def qfRows134 : Ent := .bin .shl (.chan (some 76)) (.int .u64 8) (.chan (some 77))
theorem qfRows134_ok (R : Nat → Int) (hR : ∀ j, 0 ≤ R j ∧ R j ≤ 255) (n0 : Nat) (hb : qfRowB n0) : @EntOK (qfRowV R hR n0) Try.prog qfRows134 := by
  letI : Env := qfRowV R hR n0
  have rb1048596 := hR 1048596; exact entShlV (k := .i64) (l := .u64) (a := (R 1048596)) (c := ((R 1048596) * 256)) (s := 8) rfl rfl rfl (by decide) (by show IntKind.i64.wrap ((R 1048596) * 2 ^ 8) = ((R 1048596) * 256); rw [show ((2 : Int) ^ 8) = 256 from by decide, IntWalk.i64_in _ (by omega)])
def qfRows135 : Ent := .conv .i64 (.chan (some 1048597)) (.chan (some 78))
theorem qfRows135_ok (R : Nat → Int) (hR : ∀ j, 0 ≤ R j ∧ R j ≤ 255) (n0 : Nat) (hb : qfRowB n0) : @EntOK (qfRowV R hR n0) Try.prog qfRows135 := by
  letI : Env := qfRowV R hR n0
  have rb1048597 := hR 1048597; exact entConvV (k := .i64) (l := .u8) (a := (R 1048597)) (c := (R 1048597)) rfl rfl (by rw [IntWalk.i64_in _ (by omega)])
def qfRows136 : Ent := .bin .or (.chan (some 77)) (.chan (some 78)) (.chan (some 66))
theorem qfRows136_ok (R : Nat → Int) (hR : ∀ j, 0 ≤ R j ∧ R j ≤ 255) (n0 : Nat) (hb : qfRowB n0) : @EntOK (qfRowV R hR n0) Try.prog qfRows136 := by
  letI : Env := qfRowV R hR n0
  have rb1048596 := hR 1048596; have rb1048597 := hR 1048597; exact entOrV (k := .i64) (a := ((R 1048596) * 256)) (b := (R 1048597)) (c := (((R 1048596) * 256) + (R 1048597))) rfl rfl rfl (by exact join_i64 (R 1048596) (R 1048597) 8 256 (by decide) (by omega) (by omega) (by omega) (by omega))
def qfRows137 : Ent := .conv .i64 (.chan (some 1048598)) (.chan (some 79))
theorem qfRows137_ok (R : Nat → Int) (hR : ∀ j, 0 ≤ R j ∧ R j ≤ 255) (n0 : Nat) (hb : qfRowB n0) : @EntOK (qfRowV R hR n0) Try.prog qfRows137 := by
  letI : Env := qfRowV R hR n0
  have rb1048598 := hR 1048598; exact entConvV (k := .i64) (l := .u8) (a := (R 1048598)) (c := (R 1048598)) rfl rfl (by rw [IntWalk.i64_in _ (by omega)])
def qfRows138 : Ent := .bin .shl (.chan (some 79)) (.int .u64 8) (.chan (some 80))
theorem qfRows138_ok (R : Nat → Int) (hR : ∀ j, 0 ≤ R j ∧ R j ≤ 255) (n0 : Nat) (hb : qfRowB n0) : @EntOK (qfRowV R hR n0) Try.prog qfRows138 := by
  letI : Env := qfRowV R hR n0
  have rb1048598 := hR 1048598; exact entShlV (k := .i64) (l := .u64) (a := (R 1048598)) (c := ((R 1048598) * 256)) (s := 8) rfl rfl rfl (by decide) (by show IntKind.i64.wrap ((R 1048598) * 2 ^ 8) = ((R 1048598) * 256); rw [show ((2 : Int) ^ 8) = 256 from by decide, IntWalk.i64_in _ (by omega)])
def qfRows139 : Ent := .conv .i64 (.chan (some 1048599)) (.chan (some 81))
theorem qfRows139_ok (R : Nat → Int) (hR : ∀ j, 0 ≤ R j ∧ R j ≤ 255) (n0 : Nat) (hb : qfRowB n0) : @EntOK (qfRowV R hR n0) Try.prog qfRows139 := by
  letI : Env := qfRowV R hR n0
  have rb1048599 := hR 1048599; exact entConvV (k := .i64) (l := .u8) (a := (R 1048599)) (c := (R 1048599)) rfl rfl (by rw [IntWalk.i64_in _ (by omega)])
def qfRows140 : Ent := .bin .or (.chan (some 80)) (.chan (some 81)) (.chan (some 72))
theorem qfRows140_ok (R : Nat → Int) (hR : ∀ j, 0 ≤ R j ∧ R j ≤ 255) (n0 : Nat) (hb : qfRowB n0) : @EntOK (qfRowV R hR n0) Try.prog qfRows140 := by
  letI : Env := qfRowV R hR n0
  have rb1048598 := hR 1048598; have rb1048599 := hR 1048599; exact entOrV (k := .i64) (a := ((R 1048598) * 256)) (b := (R 1048599)) (c := (((R 1048598) * 256) + (R 1048599))) rfl rfl rfl (by exact join_i64 (R 1048598) (R 1048599) 8 256 (by decide) (by omega) (by omega) (by omega) (by omega))
def qfRows141 : Ent := .eqs false 50 [.chan (some 17), .chan (some 34), .chan (some 66), .chan (some 45), .chan (some 72)] [.chan (some 17), .chan (some 54), .chan (some 66), .chan (some 60), .chan (some 72)] true
theorem qfRows141_ok (R : Nat → Int) (hR : ∀ j, 0 ≤ R j ∧ R j ≤ 255) (n0 : Nat) (hb : qfRowB n0) : @EntOK (qfRowV R hR n0) Try.prog qfRows141 := by
  letI : Env := qfRowV R hR n0
  have rb1048588 := hR 1048588; have rb1048589 := hR 1048589; have rb1048590 := hR 1048590; have rb1048591 := hR 1048591; have rb1048592 := hR 1048592; have rb1048593 := hR 1048593; have rb1048594 := hR 1048594; have rb1048595 := hR 1048595; exact ⟨by intro v hv; simp only [List.mem_cons, List.not_mem_nil, or_false] at hv; rcases hv with rfl | rfl | rfl | rfl | rfl <;> first | exact .inl ⟨_, _, rfl⟩ | exact .inr ⟨_, rfl⟩, by intro v hv; simp only [List.mem_cons, List.not_mem_nil, or_false] at hv; rcases hv with rfl | rfl | rfl | rfl | rfl <;> first | exact .inl ⟨_, _, rfl⟩ | exact .inr ⟨_, rfl⟩, by intro a1 a2 w; have e0 : (((((((R 1048588) * 256) + (R 1048589)) * 256) + (R 1048590)) * 256) + (R 1048591)) = (((((R 1048588) * 16777216) + ((R 1048589) * 65536)) + ((R 1048590) * 256)) + (R 1048591)) := (by omega); have e1 : (((((((R 1048592) * 256) + (R 1048593)) * 256) + (R 1048594)) * 256) + (R 1048595)) = (((((R 1048592) * 16777216) + ((R 1048593) * 65536)) + ((R 1048594) * 256)) + (R 1048595)) := (by omega); exact eqFlow _ _ _ _ _ _ _ _ _ _ (by omega) (by omega) (by omega) (by omega) (by omega) a1 a2 w⟩
def qfRows142 : Ent := .bin .eql (.chan (some 11)) (.int .i64 0) (.bool false)
theorem qfRows142_ok (R : Nat → Int) (hR : ∀ j, 0 ≤ R j ∧ R j ≤ 255) (n0 : Nat) (hb : qfRowB n0) (hc : ¬ (((((R 1048582) * 256) + (R 1048583)) % 8192) = 0)) : @EntOK (qfRowV R hR n0) Try.prog qfRows142 := by
  letI : Env := qfRowV R hR n0
  have rb1048582 := hR 1048582; have rb1048583 := hR 1048583; exact entCmp (k := .i64) (a := ((((R 1048582) * 256) + (R 1048583)) % 8192)) (b := 0) rfl rfl (by show some ((((((R 1048582) * 256) + (R 1048583)) % 8192) : Int) == 0) = some false; rw [beq_eq_false_iff_ne.2 (by omega)])
def qfRows143 : Ent := .bin .eql (.chan (some 17)) (.int .i64 17) (.bool false)
theorem qfRows143_ok (R : Nat → Int) (hR : ∀ j, 0 ≤ R j ∧ R j ≤ 255) (n0 : Nat) (hb : qfRowB n0) (hc : ¬ ((R 1048585) = 17)) : @EntOK (qfRowV R hR n0) Try.prog qfRows143 := by
  letI : Env := qfRowV R hR n0
  have rb1048585 := hR 1048585; exact entCmp (k := .i64) (a := (R 1048585)) (b := 17) rfl rfl (by show some (((R 1048585) : Int) == 17) = some false; rw [beq_eq_false_iff_ne.2 (by omega)])
def qfRows144 : Ent := .bin .eql (.chan (some 17)) (.int .i64 6) (.bool true)
theorem qfRows144_ok (R : Nat → Int) (hR : ∀ j, 0 ≤ R j ∧ R j ≤ 255) (n0 : Nat) (hb : qfRowB n0) (hc : (R 1048585) = 6) : @EntOK (qfRowV R hR n0) Try.prog qfRows144 := by
  letI : Env := qfRowV R hR n0
  have rb1048585 := hR 1048585; exact entCmp (k := .i64) (a := (R 1048585)) (b := 6) rfl rfl (by show some (((R 1048585) : Int) == 6) = some true; rw [beq_iff_eq.2 (by omega)])
def qfRows145 : Ent := .bin .eql (.chan (some 17)) (.int .i64 6) (.bool false)
theorem qfRows145_ok (R : Nat → Int) (hR : ∀ j, 0 ≤ R j ∧ R j ≤ 255) (n0 : Nat) (hb : qfRowB n0) (hc : ¬ ((R 1048585) = 6)) : @EntOK (qfRowV R hR n0) Try.prog qfRows145 := by
  letI : Env := qfRowV R hR n0
  have rb1048585 := hR 1048585; exact entCmp (k := .i64) (a := (R 1048585)) (b := 6) rfl rfl (by show some (((R 1048585) : Int) == 6) = some false; rw [beq_eq_false_iff_ne.2 (by omega)])
def qfRows146 : Ent := .bin .and (.chan (some 3)) (.int .i64 15) (.int .i64 6)
theorem qfRows146_ok (R : Nat → Int) (hR : ∀ j, 0 ≤ R j ∧ R j ≤ 255) (n0 : Nat) (hb : qfRowB n0) (hc : ((R 1048576) % 16) = 6) : @EntOK (qfRowV R hR n0) Try.prog qfRows146 := by
  letI : Env := qfRowV R hR n0
  have rb1048576 := hR 1048576; exact entAndI (k := .i64) (a := (R 1048576)) (b := 15) (c := 6) rfl rfl (by rw [show band .i64 (R 1048576) 15 = ((R 1048576) % 16) from (by exact mask_i64 (R 1048576) 4 15 16 (by decide) (by decide) (by decide))]; omega)
def qfRows147 : Ent := .bin .gtr (.int .i64 4) (.chan (some 35)) (.bool true)
theorem qfRows147_ok (R : Nat → Int) (hR : ∀ j, 0 ≤ R j ∧ R j ≤ 255) (n0 : Nat) (hb : qfRowB n0) (hc : 4 > ((n0 : Int) - 20)) : @EntOK (qfRowV R hR n0) Try.prog qfRows147 := by
  letI : Env := qfRowV R hR n0
  exact entCmp (k := .i64) (a := 4) (b := ((n0 : Int) - 20)) rfl rfl (by show some (decide ((4 : Int) > ((n0 : Int) - 20))) = some true; rw [decide_eq_true (by omega)])
def qfRows148 : Ent := .bin .rem (.chan (some 1048576)) (.int .u8 16) (.int .u8 6)
theorem qfRows148_ok (R : Nat → Int) (hR : ∀ j, 0 ≤ R j ∧ R j ≤ 255) (n0 : Nat) (hb : qfRowB n0) (hc : ((R 1048576) % 16) = 6) : @EntOK (qfRowV R hR n0) Try.prog qfRows148 := by
  letI : Env := qfRowV R hR n0
  have rb1048576 := hR 1048576; exact entRemI (k := .u8) (a := (R 1048576)) (b := 16) (c := 6) rfl rfl (by omega) (by rw [Int.tmod_eq_emod_of_nonneg (by omega)]; omega)
def qfRows149 : Ent := .bin .gtr (.int .i64 24) (.chan (some 0)) (.bool true)
theorem qfRows149_ok (R : Nat → Int) (hR : ∀ j, 0 ≤ R j ∧ R j ≤ 255) (n0 : Nat) (hb : qfRowB n0) (hc : 24 > (n0 : Int)) : @EntOK (qfRowV R hR n0) Try.prog qfRows149 := by
  letI : Env := qfRowV R hR n0
  exact entCmp (k := .i64) (a := 24) (b := (n0 : Int)) rfl rfl (by show some (decide ((24 : Int) > (n0 : Int))) = some true; rw [decide_eq_true (by omega)])
def qfRows150 : Ent := .bin .gtr (.int .i64 4) (.chan (some 35)) (.bool false)
theorem qfRows150_ok (R : Nat → Int) (hR : ∀ j, 0 ≤ R j ∧ R j ≤ 255) (n0 : Nat) (hb : qfRowB n0) (hc : ¬ (4 > ((n0 : Int) - 20))) : @EntOK (qfRowV R hR n0) Try.prog qfRows150 := by
  letI : Env := qfRowV R hR n0
  exact entCmp (k := .i64) (a := 4) (b := ((n0 : Int) - 20)) rfl rfl (by show some (decide ((4 : Int) > ((n0 : Int) - 20))) = some false; rw [decide_eq_false (by omega)])
def qfRows151 : Ent := .bin .gtr (.int .i64 0) (.chan (some 67)) (.bool false)
theorem qfRows151_ok (R : Nat → Int) (hR : ∀ j, 0 ≤ R j ∧ R j ≤ 255) (n0 : Nat) (hb : qfRowB n0) (hc : ¬ (0 > ((n0 : Int) - 24))) : @EntOK (qfRowV R hR n0) Try.prog qfRows151 := by
  letI : Env := qfRowV R hR n0
  exact entCmp (k := .i64) (a := 0) (b := ((n0 : Int) - 24)) rfl rfl (by show some (decide ((0 : Int) > ((n0 : Int) - 24))) = some false; rw [decide_eq_false (by omega)])
def qfRows152 : Ent := .bin .geq (.chan (some 67)) (.int .i64 4) (.bool false)
theorem qfRows152_ok (R : Nat → Int) (hR : ∀ j, 0 ≤ R j ∧ R j ≤ 255) (n0 : Nat) (hb : qfRowB n0) (hc : ¬ (((n0 : Int) - 24) ≥ 4)) : @EntOK (qfRowV R hR n0) Try.prog qfRows152 := by
  letI : Env := qfRowV R hR n0
  exact entCmp (k := .i64) (a := ((n0 : Int) - 24)) (b := 4) rfl rfl (by show some (decide ((((n0 : Int) - 24) : Int) ≥ 4)) = some false; rw [decide_eq_false (by omega)])
def qfRows153 : Ent := .bin .gtr (.int .i64 24) (.chan (some 0)) (.bool false)
theorem qfRows153_ok (R : Nat → Int) (hR : ∀ j, 0 ≤ R j ∧ R j ≤ 255) (n0 : Nat) (hb : qfRowB n0) (hc : ¬ (24 > (n0 : Int))) : @EntOK (qfRowV R hR n0) Try.prog qfRows153 := by
  letI : Env := qfRowV R hR n0
  exact entCmp (k := .i64) (a := 24) (b := (n0 : Int)) rfl rfl (by show some (decide ((24 : Int) > (n0 : Int))) = some false; rw [decide_eq_false (by omega)])
def qfRows154 : Ent := .bin .geq (.chan (some 0)) (.int .i64 28) (.bool false)
theorem qfRows154_ok (R : Nat → Int) (hR : ∀ j, 0 ≤ R j ∧ R j ≤ 255) (n0 : Nat) (hb : qfRowB n0) (hc : ¬ ((n0 : Int) ≥ 28)) : @EntOK (qfRowV R hR n0) Try.prog qfRows154 := by
  letI : Env := qfRowV R hR n0
  exact entCmp (k := .i64) (a := (n0 : Int)) (b := 28) rfl rfl (by show some (decide (((n0 : Int) : Int) ≥ 28)) = some false; rw [decide_eq_false (by omega)])
def qfRows155 : Ent := .bin .geq (.chan (some 67)) (.int .i64 4) (.bool true)
theorem qfRows155_ok (R : Nat → Int) (hR : ∀ j, 0 ≤ R j ∧ R j ≤ 255) (n0 : Nat) (hb : qfRowB n0) (hc : ((n0 : Int) - 24) ≥ 4) : @EntOK (qfRowV R hR n0) Try.prog qfRows155 := by
  letI : Env := qfRowV R hR n0
  exact entCmp (k := .i64) (a := ((n0 : Int) - 24)) (b := 4) rfl rfl (by show some (decide ((((n0 : Int) - 24) : Int) ≥ 4)) = some true; rw [decide_eq_true (by omega)])
def qfRows156 : Ent := .bin .gtr (.int .i64 2) (.chan (some 67)) (.bool false)
theorem qfRows156_ok (R : Nat → Int) (hR : ∀ j, 0 ≤ R j ∧ R j ≤ 255) (n0 : Nat) (hb : qfRowB n0) (hc : ¬ ((2 : Int) > ((n0 : Int) - 24))) : @EntOK (qfRowV R hR n0) Try.prog qfRows156 := by
  letI : Env := qfRowV R hR n0
  exact entCmp (k := .i64) (a := 2) (b := ((n0 : Int) - 24)) rfl rfl (by show some (decide ((2 : Int) > ((n0 : Int) - 24))) = some false; rw [decide_eq_false (by omega)])
def qfRows157 : Ent := .slen 0 53 (.chan (some 82))
theorem qfRows157_ok (R : Nat → Int) (hR : ∀ j, 0 ≤ R j ∧ R j ≤ 255) (n0 : Nat) (hb : qfRowB n0) (hc : 26 ≤ n0) : @EntOK (qfRowV R hR n0) Try.prog qfRows157 := by
  letI : Env := qfRowV R hR n0
  exact entSlen (n := n0) (j := 82) (c := ((n0 : Int) - 26)) rfl rfl (by simp; try omega) (by first | exact .inl rfl | (right; omega))
def qfRows158 : Ent := .conv .u32 (.chan (some 1048600)) (.chan (some 83))
theorem qfRows158_ok (R : Nat → Int) (hR : ∀ j, 0 ≤ R j ∧ R j ≤ 255) (n0 : Nat) (hb : qfRowB n0) : @EntOK (qfRowV R hR n0) Try.prog qfRows158 := by
  letI : Env := qfRowV R hR n0
  have rb1048600 := hR 1048600; exact entConvV (k := .u32) (l := .u8) (a := (R 1048600)) (c := (R 1048600)) rfl rfl (by rw [IntWalk.u32_in _ (by omega)])
def qfRows159 : Ent := .bin .or (.int .u32 0) (.chan (some 83)) (.chan (some 83))
theorem qfRows159_ok (R : Nat → Int) (hR : ∀ j, 0 ≤ R j ∧ R j ≤ 255) (n0 : Nat) (hb : qfRowB n0) : @EntOK (qfRowV R hR n0) Try.prog qfRows159 := by
  letI : Env := qfRowV R hR n0
  have rb1048600 := hR 1048600; exact entOrV (k := .u32) (a := 0) (b := (R 1048600)) (c := (R 1048600)) rfl rfl rfl (by have h := join_u32 0 (R 1048600) 8 256 (by decide) (by omega) (by omega) (by omega) (by omega); simpa using h)
def qfRows160 : Ent := .bin .shl (.chan (some 83)) (.int .u64 8) (.chan (some 84))
theorem qfRows160_ok (R : Nat → Int) (hR : ∀ j, 0 ≤ R j ∧ R j ≤ 255) (n0 : Nat) (hb : qfRowB n0) : @EntOK (qfRowV R hR n0) Try.prog qfRows160 := by
  letI : Env := qfRowV R hR n0
  have rb1048600 := hR 1048600; exact entShlV (k := .u32) (l := .u64) (a := (R 1048600)) (c := ((R 1048600) * 256)) (s := 8) rfl rfl rfl (by decide) (by show IntKind.u32.wrap ((R 1048600) * 2 ^ 8) = ((R 1048600) * 256); rw [show ((2 : Int) ^ 8) = 256 from by decide, IntWalk.u32_in _ (by omega)])
def qfRows161 : Ent := .conv .u32 (.chan (some 1048601)) (.chan (some 85))
theorem qfRows161_ok (R : Nat → Int) (hR : ∀ j, 0 ≤ R j ∧ R j ≤ 255) (n0 : Nat) (hb : qfRowB n0) : @EntOK (qfRowV R hR n0) Try.prog qfRows161 := by
  letI : Env := qfRowV R hR n0
  have rb1048601 := hR 1048601; exact entConvV (k := .u32) (l := .u8) (a := (R 1048601)) (c := (R 1048601)) rfl rfl (by rw [IntWalk.u32_in _ (by omega)])
def qfRows162 : Ent := .bin .or (.chan (some 84)) (.chan (some 85)) (.chan (some 86))
theorem qfRows162_ok (R : Nat → Int) (hR : ∀ j, 0 ≤ R j ∧ R j ≤ 255) (n0 : Nat) (hb : qfRowB n0) : @EntOK (qfRowV R hR n0) Try.prog qfRows162 := by
  letI : Env := qfRowV R hR n0
  have rb1048600 := hR 1048600; have rb1048601 := hR 1048601; exact entOrV (k := .u32) (a := ((R 1048600) * 256)) (b := (R 1048601)) (c := (((R 1048600) * 256) + (R 1048601))) rfl rfl rfl (by exact join_u32 (R 1048600) (R 1048601) 8 256 (by decide) (by omega) (by omega) (by omega) (by omega))
def qfRows163 : Ent := .conv .i64 (.chan (some 86)) (.chan (some 87))
theorem qfRows163_ok (R : Nat → Int) (hR : ∀ j, 0 ≤ R j ∧ R j ≤ 255) (n0 : Nat) (hb : qfRowB n0) : @EntOK (qfRowV R hR n0) Try.prog qfRows163 := by
  letI : Env := qfRowV R hR n0
  have rb1048600 := hR 1048600; have rb1048601 := hR 1048601; exact entConvV (k := .i64) (l := .u32) (a := (((R 1048600) * 256) + (R 1048601))) (c := (((R 1048600) * 256) + (R 1048601))) rfl rfl (by rw [IntWalk.i64_in _ (by omega)])
def qfRows164 : Ent := .bin .gtr (.int .i64 2) (.chan (some 82)) (.bool false)
theorem qfRows164_ok (R : Nat → Int) (hR : ∀ j, 0 ≤ R j ∧ R j ≤ 255) (n0 : Nat) (hb : qfRowB n0) (hc : ¬ (2 > ((n0 : Int) - 26))) : @EntOK (qfRowV R hR n0) Try.prog qfRows164 := by
  letI : Env := qfRowV R hR n0
  exact entCmp (k := .i64) (a := 2) (b := ((n0 : Int) - 26)) rfl rfl (by show some (decide ((2 : Int) > ((n0 : Int) - 26))) = some false; rw [decide_eq_false (by omega)])
def qfRows165 : Ent := .slen 0 57 (.chan (some 88))
theorem qfRows165_ok (R : Nat → Int) (hR : ∀ j, 0 ≤ R j ∧ R j ≤ 255) (n0 : Nat) (hb : qfRowB n0) (hc : 28 ≤ n0) : @EntOK (qfRowV R hR n0) Try.prog qfRows165 := by
  letI : Env := qfRowV R hR n0
  exact entSlen (n := n0) (j := 88) (c := ((n0 : Int) - 28)) rfl rfl (by simp; try omega) (by first | exact .inl rfl | (right; omega))
def qfRows166 : Ent := .conv .u32 (.chan (some 1048602)) (.chan (some 89))
theorem qfRows166_ok (R : Nat → Int) (hR : ∀ j, 0 ≤ R j ∧ R j ≤ 255) (n0 : Nat) (hb : qfRowB n0) : @EntOK (qfRowV R hR n0) Try.prog qfRows166 := by
  letI : Env := qfRowV R hR n0
  have rb1048602 := hR 1048602; exact entConvV (k := .u32) (l := .u8) (a := (R 1048602)) (c := (R 1048602)) rfl rfl (by rw [IntWalk.u32_in _ (by omega)])
def qfRows167 : Ent := .bin .or (.int .u32 0) (.chan (some 89)) (.chan (some 89))
theorem qfRows167_ok (R : Nat → Int) (hR : ∀ j, 0 ≤ R j ∧ R j ≤ 255) (n0 : Nat) (hb : qfRowB n0) : @EntOK (qfRowV R hR n0) Try.prog qfRows167 := by
  letI : Env := qfRowV R hR n0
  have rb1048602 := hR 1048602; exact entOrV (k := .u32) (a := 0) (b := (R 1048602)) (c := (R 1048602)) rfl rfl rfl (by have h := join_u32 0 (R 1048602) 8 256 (by decide) (by omega) (by omega) (by omega) (by omega); simpa using h)
def qfRows168 : Ent := .bin .shl (.chan (some 89)) (.int .u64 8) (.chan (some 90))
theorem qfRows168_ok (R : Nat → Int) (hR : ∀ j, 0 ≤ R j ∧ R j ≤ 255) (n0 : Nat) (hb : qfRowB n0) : @EntOK (qfRowV R hR n0) Try.prog qfRows168 := by
  letI : Env := qfRowV R hR n0
  have rb1048602 := hR 1048602; exact entShlV (k := .u32) (l := .u64) (a := (R 1048602)) (c := ((R 1048602) * 256)) (s := 8) rfl rfl rfl (by decide) (by show IntKind.u32.wrap ((R 1048602) * 2 ^ 8) = ((R 1048602) * 256); rw [show ((2 : Int) ^ 8) = 256 from by decide, IntWalk.u32_in _ (by omega)])
def qfRows169 : Ent := .conv .u32 (.chan (some 1048603)) (.chan (some 91))
theorem qfRows169_ok (R : Nat → Int) (hR : ∀ j, 0 ≤ R j ∧ R j ≤ 255) (n0 : Nat) (hb : qfRowB n0) : @EntOK (qfRowV R hR n0) Try.prog qfRows169 := by
  letI : Env := qfRowV R hR n0
  have rb1048603 := hR 1048603; exact entConvV (k := .u32) (l := .u8) (a := (R 1048603)) (c := (R 1048603)) rfl rfl (by rw [IntWalk.u32_in _ (by omega)])
def qfRows170 : Ent := .bin .or (.chan (some 90)) (.chan (some 91)) (.chan (some 92))
theorem qfRows170_ok (R : Nat → Int) (hR : ∀ j, 0 ≤ R j ∧ R j ≤ 255) (n0 : Nat) (hb : qfRowB n0) : @EntOK (qfRowV R hR n0) Try.prog qfRows170 := by
  letI : Env := qfRowV R hR n0
  have rb1048602 := hR 1048602; have rb1048603 := hR 1048603; exact entOrV (k := .u32) (a := ((R 1048602) * 256)) (b := (R 1048603)) (c := (((R 1048602) * 256) + (R 1048603))) rfl rfl rfl (by exact join_u32 (R 1048602) (R 1048603) 8 256 (by decide) (by omega) (by omega) (by omega) (by omega))
def qfRows171 : Ent := .conv .i64 (.chan (some 92)) (.chan (some 93))
theorem qfRows171_ok (R : Nat → Int) (hR : ∀ j, 0 ≤ R j ∧ R j ≤ 255) (n0 : Nat) (hb : qfRowB n0) : @EntOK (qfRowV R hR n0) Try.prog qfRows171 := by
  letI : Env := qfRowV R hR n0
  have rb1048602 := hR 1048602; have rb1048603 := hR 1048603; exact entConvV (k := .i64) (l := .u32) (a := (((R 1048602) * 256) + (R 1048603))) (c := (((R 1048602) * 256) + (R 1048603))) rfl rfl (by rw [IntWalk.i64_in _ (by omega)])
def qfRows172 : Ent := .bin .geq (.chan (some 0)) (.int .i64 28) (.bool true)
theorem qfRows172_ok (R : Nat → Int) (hR : ∀ j, 0 ≤ R j ∧ R j ≤ 255) (n0 : Nat) (hb : qfRowB n0) (hc : (n0 : Int) ≥ 28) : @EntOK (qfRowV R hR n0) Try.prog qfRows172 := by
  letI : Env := qfRowV R hR n0
  exact entCmp (k := .i64) (a := (n0 : Int)) (b := 28) rfl rfl (by show some (decide (((n0 : Int) : Int) ≥ 28)) = some true; rw [decide_eq_true (by omega)])
def qfRows173 : Ent := .conv .i64 (.chan (some 1048600)) (.chan (some 94))
theorem qfRows173_ok (R : Nat → Int) (hR : ∀ j, 0 ≤ R j ∧ R j ≤ 255) (n0 : Nat) (hb : qfRowB n0) : @EntOK (qfRowV R hR n0) Try.prog qfRows173 := by
  letI : Env := qfRowV R hR n0
  have rb1048600 := hR 1048600; exact entConvV (k := .i64) (l := .u8) (a := (R 1048600)) (c := (R 1048600)) rfl rfl (by rw [IntWalk.i64_in _ (by omega)])
def qfRows174 : Ent := .bin .shl (.chan (some 94)) (.int .u64 8) (.chan (some 95))
theorem qfRows174_ok (R : Nat → Int) (hR : ∀ j, 0 ≤ R j ∧ R j ≤ 255) (n0 : Nat) (hb : qfRowB n0) : @EntOK (qfRowV R hR n0) Try.prog qfRows174 := by
  letI : Env := qfRowV R hR n0
  have rb1048600 := hR 1048600; exact entShlV (k := .i64) (l := .u64) (a := (R 1048600)) (c := ((R 1048600) * 256)) (s := 8) rfl rfl rfl (by decide) (by show IntKind.i64.wrap ((R 1048600) * 2 ^ 8) = ((R 1048600) * 256); rw [show ((2 : Int) ^ 8) = 256 from by decide, IntWalk.i64_in _ (by omega)])
def qfRows175 : Ent := .conv .i64 (.chan (some 1048601)) (.chan (some 96))
theorem qfRows175_ok (R : Nat → Int) (hR : ∀ j, 0 ≤ R j ∧ R j ≤ 255) (n0 : Nat) (hb : qfRowB n0) : @EntOK (qfRowV R hR n0) Try.prog qfRows175 := by
  letI : Env := qfRowV R hR n0
  have rb1048601 := hR 1048601; exact entConvV (k := .i64) (l := .u8) (a := (R 1048601)) (c := (R 1048601)) rfl rfl (by rw [IntWalk.i64_in _ (by omega)])
def qfRows176 : Ent := .bin .or (.chan (some 95)) (.chan (some 96)) (.chan (some 87))
theorem qfRows176_ok (R : Nat → Int) (hR : ∀ j, 0 ≤ R j ∧ R j ≤ 255) (n0 : Nat) (hb : qfRowB n0) : @EntOK (qfRowV R hR n0) Try.prog qfRows176 := by
  letI : Env := qfRowV R hR n0
  have rb1048600 := hR 1048600; have rb1048601 := hR 1048601; exact entOrV (k := .i64) (a := ((R 1048600) * 256)) (b := (R 1048601)) (c := (((R 1048600) * 256) + (R 1048601))) rfl rfl rfl (by exact join_i64 (R 1048600) (R 1048601) 8 256 (by decide) (by omega) (by omega) (by omega) (by omega))
def qfRows177 : Ent := .conv .i64 (.chan (some 1048602)) (.chan (some 97))
theorem qfRows177_ok (R : Nat → Int) (hR : ∀ j, 0 ≤ R j ∧ R j ≤ 255) (n0 : Nat) (hb : qfRowB n0) : @EntOK (qfRowV R hR n0) Try.prog qfRows177 := by
  letI : Env := qfRowV R hR n0
  have rb1048602 := hR 1048602; exact entConvV (k := .i64) (l := .u8) (a := (R 1048602)) (c := (R 1048602)) rfl rfl (by rw [IntWalk.i64_in _ (by omega)])
def qfRows178 : Ent := .bin .shl (.chan (some 97)) (.int .u64 8) (.chan (some 98))
theorem qfRows178_ok (R : Nat → Int) (hR : ∀ j, 0 ≤ R j ∧ R j ≤ 255) (n0 : Nat) (hb : qfRowB n0) : @EntOK (qfRowV R hR n0) Try.prog qfRows178 := by
  letI : Env := qfRowV R hR n0
  have rb1048602 := hR 1048602; exact entShlV (k := .i64) (l := .u64) (a := (R 1048602)) (c := ((R 1048602) * 256)) (s := 8) rfl rfl rfl (by decide) (by show IntKind.i64.wrap ((R 1048602) * 2 ^ 8) = ((R 1048602) * 256); rw [show ((2 : Int) ^ 8) = 256 from by decide, IntWalk.i64_in _ (by omega)])
def qfRows179 : Ent := .conv .i64 (.chan (some 1048603)) (.chan (some 99))
theorem qfRows179_ok (R : Nat → Int) (hR : ∀ j, 0 ≤ R j ∧ R j ≤ 255) (n0 : Nat) (hb : qfRowB n0) : @EntOK (qfRowV R hR n0) Try.prog qfRows179 := by
  letI : Env := qfRowV R hR n0
  have rb1048603 := hR 1048603; exact entConvV (k := .i64) (l := .u8) (a := (R 1048603)) (c := (R 1048603)) rfl rfl (by rw [IntWalk.i64_in _ (by omega)])
def qfRows180 : Ent := .bin .or (.chan (some 98)) (.chan (some 99)) (.chan (some 93))
theorem qfRows180_ok (R : Nat → Int) (hR : ∀ j, 0 ≤ R j ∧ R j ≤ 255) (n0 : Nat) (hb : qfRowB n0) : @EntOK (qfRowV R hR n0) Try.prog qfRows180 := by
  letI : Env := qfRowV R hR n0
  have rb1048602 := hR 1048602; have rb1048603 := hR 1048603; exact entOrV (k := .i64) (a := ((R 1048602) * 256)) (b := (R 1048603)) (c := (((R 1048602) * 256) + (R 1048603))) rfl rfl rfl (by exact join_i64 (R 1048602) (R 1048603) 8 256 (by decide) (by omega) (by omega) (by omega) (by omega))
def qfRows181 : Ent := .eqs false 50 [.chan (some 17), .chan (some 34), .chan (some 87), .chan (some 45), .chan (some 93)] [.chan (some 17), .chan (some 54), .chan (some 87), .chan (some 60), .chan (some 93)] true
theorem qfRows181_ok (R : Nat → Int) (hR : ∀ j, 0 ≤ R j ∧ R j ≤ 255) (n0 : Nat) (hb : qfRowB n0) : @EntOK (qfRowV R hR n0) Try.prog qfRows181 := by
  letI : Env := qfRowV R hR n0
  have rb1048588 := hR 1048588; have rb1048589 := hR 1048589; have rb1048590 := hR 1048590; have rb1048591 := hR 1048591; have rb1048592 := hR 1048592; have rb1048593 := hR 1048593; have rb1048594 := hR 1048594; have rb1048595 := hR 1048595; exact ⟨by intro v hv; simp only [List.mem_cons, List.not_mem_nil, or_false] at hv; rcases hv with rfl | rfl | rfl | rfl | rfl <;> first | exact .inl ⟨_, _, rfl⟩ | exact .inr ⟨_, rfl⟩, by intro v hv; simp only [List.mem_cons, List.not_mem_nil, or_false] at hv; rcases hv with rfl | rfl | rfl | rfl | rfl <;> first | exact .inl ⟨_, _, rfl⟩ | exact .inr ⟨_, rfl⟩, by intro a1 a2 w; have e0 : (((((((R 1048588) * 256) + (R 1048589)) * 256) + (R 1048590)) * 256) + (R 1048591)) = (((((R 1048588) * 16777216) + ((R 1048589) * 65536)) + ((R 1048590) * 256)) + (R 1048591)) := (by omega); have e1 : (((((((R 1048592) * 256) + (R 1048593)) * 256) + (R 1048594)) * 256) + (R 1048595)) = (((((R 1048592) * 16777216) + ((R 1048593) * 65536)) + ((R 1048594) * 256)) + (R 1048595)) := (by omega); exact eqFlow _ _ _ _ _ _ _ _ _ _ (by omega) (by omega) (by omega) (by omega) (by omega) a1 a2 w⟩
def qfRows182 : Ent := .bin .and (.chan (some 3)) (.int .i64 15) (.int .i64 7)
theorem qfRows182_ok (R : Nat → Int) (hR : ∀ j, 0 ≤ R j ∧ R j ≤ 255) (n0 : Nat) (hb : qfRowB n0) (hc : ((R 1048576) % 16) = 7) : @EntOK (qfRowV R hR n0) Try.prog qfRows182 := by
  letI : Env := qfRowV R hR n0
  have rb1048576 := hR 1048576; exact entAndI (k := .i64) (a := (R 1048576)) (b := 15) (c := 7) rfl rfl (by rw [show band .i64 (R 1048576) 15 = ((R 1048576) % 16) from (by exact mask_i64 (R 1048576) 4 15 16 (by decide) (by decide) (by decide))]; omega)
def qfRows183 : Ent := .bin .gtr (.int .i64 8) (.chan (some 35)) (.bool true)
theorem qfRows183_ok (R : Nat → Int) (hR : ∀ j, 0 ≤ R j ∧ R j ≤ 255) (n0 : Nat) (hb : qfRowB n0) (hc : 8 > ((n0 : Int) - 20)) : @EntOK (qfRowV R hR n0) Try.prog qfRows183 := by
  letI : Env := qfRowV R hR n0
  exact entCmp (k := .i64) (a := 8) (b := ((n0 : Int) - 20)) rfl rfl (by show some (decide ((8 : Int) > ((n0 : Int) - 20))) = some true; rw [decide_eq_true (by omega)])
def qfRows184 : Ent := .bin .rem (.chan (some 1048576)) (.int .u8 16) (.int .u8 7)
theorem qfRows184_ok (R : Nat → Int) (hR : ∀ j, 0 ≤ R j ∧ R j ≤ 255) (n0 : Nat) (hb : qfRowB n0) (hc : ((R 1048576) % 16) = 7) : @EntOK (qfRowV R hR n0) Try.prog qfRows184 := by
  letI : Env := qfRowV R hR n0
  have rb1048576 := hR 1048576; exact entRemI (k := .u8) (a := (R 1048576)) (b := 16) (c := 7) rfl rfl (by omega) (by rw [Int.tmod_eq_emod_of_nonneg (by omega)]; omega)
def qfRows185 : Ent := .bin .gtr (.int .i64 28) (.chan (some 0)) (.bool true)
theorem qfRows185_ok (R : Nat → Int) (hR : ∀ j, 0 ≤ R j ∧ R j ≤ 255) (n0 : Nat) (hb : qfRowB n0) (hc : 28 > (n0 : Int)) : @EntOK (qfRowV R hR n0) Try.prog qfRows185 := by
  letI : Env := qfRowV R hR n0
  exact entCmp (k := .i64) (a := 28) (b := (n0 : Int)) rfl rfl (by show some (decide ((28 : Int) > (n0 : Int))) = some true; rw [decide_eq_true (by omega)])
def qfRows186 : Ent := .bin .gtr (.int .i64 8) (.chan (some 35)) (.bool false)
theorem qfRows186_ok (R : Nat → Int) (hR : ∀ j, 0 ≤ R j ∧ R j ≤ 255) (n0 : Nat) (hb : qfRowB n0) (hc : ¬ (8 > ((n0 : Int) - 20))) : @EntOK (qfRowV R hR n0) Try.prog qfRows186 := by
  letI : Env := qfRowV R hR n0
  exact entCmp (k := .i64) (a := 8) (b := ((n0 : Int) - 20)) rfl rfl (by show some (decide ((8 : Int) > ((n0 : Int) - 20))) = some false; rw [decide_eq_false (by omega)])
def qfRows187 : Ent := .bin .gtr (.int .i64 0) (.chan (some 88)) (.bool false)
theorem qfRows187_ok (R : Nat → Int) (hR : ∀ j, 0 ≤ R j ∧ R j ≤ 255) (n0 : Nat) (hb : qfRowB n0) (hc : ¬ (0 > ((n0 : Int) - 28))) : @EntOK (qfRowV R hR n0) Try.prog qfRows187 := by
  letI : Env := qfRowV R hR n0
  exact entCmp (k := .i64) (a := 0) (b := ((n0 : Int) - 28)) rfl rfl (by show some (decide ((0 : Int) > ((n0 : Int) - 28))) = some false; rw [decide_eq_false (by omega)])
def qfRows188 : Ent := .bin .geq (.chan (some 88)) (.int .i64 4) (.bool false)
theorem qfRows188_ok (R : Nat → Int) (hR : ∀ j, 0 ≤ R j ∧ R j ≤ 255) (n0 : Nat) (hb : qfRowB n0) (hc : ¬ (((n0 : Int) - 28) ≥ 4)) : @EntOK (qfRowV R hR n0) Try.prog qfRows188 := by
  letI : Env := qfRowV R hR n0
  exact entCmp (k := .i64) (a := ((n0 : Int) - 28)) (b := 4) rfl rfl (by show some (decide ((((n0 : Int) - 28) : Int) ≥ 4)) = some false; rw [decide_eq_false (by omega)])
def qfRows189 : Ent := .bin .gtr (.int .i64 28) (.chan (some 0)) (.bool false)
theorem qfRows189_ok (R : Nat → Int) (hR : ∀ j, 0 ≤ R j ∧ R j ≤ 255) (n0 : Nat) (hb : qfRowB n0) (hc : ¬ (28 > (n0 : Int))) : @EntOK (qfRowV R hR n0) Try.prog qfRows189 := by
  letI : Env := qfRowV R hR n0
  exact entCmp (k := .i64) (a := 28) (b := (n0 : Int)) rfl rfl (by show some (decide ((28 : Int) > (n0 : Int))) = some false; rw [decide_eq_false (by omega)])
def qfRows190 : Ent := .bin .geq (.chan (some 0)) (.int .i64 32) (.bool false)
theorem qfRows190_ok (R : Nat → Int) (hR : ∀ j, 0 ≤ R j ∧ R j ≤ 255) (n0 : Nat) (hb : qfRowB n0) (hc : ¬ ((n0 : Int) ≥ 32)) : @EntOK (qfRowV R hR n0) Try.prog qfRows190 := by
  letI : Env := qfRowV R hR n0
  exact entCmp (k := .i64) (a := (n0 : Int)) (b := 32) rfl rfl (by show some (decide (((n0 : Int) : Int) ≥ 32)) = some false; rw [decide_eq_false (by omega)])
def qfRows191 : Ent := .bin .geq (.chan (some 88)) (.int .i64 4) (.bool true)
theorem qfRows191_ok (R : Nat → Int) (hR : ∀ j, 0 ≤ R j ∧ R j ≤ 255) (n0 : Nat) (hb : qfRowB n0) (hc : ((n0 : Int) - 28) ≥ 4) : @EntOK (qfRowV R hR n0) Try.prog qfRows191 := by
  letI : Env := qfRowV R hR n0
  exact entCmp (k := .i64) (a := ((n0 : Int) - 28)) (b := 4) rfl rfl (by show some (decide ((((n0 : Int) - 28) : Int) ≥ 4)) = some true; rw [decide_eq_true (by omega)])
def qfRows192 : Ent := .bin .gtr (.int .i64 2) (.chan (some 88)) (.bool false)
theorem qfRows192_ok (R : Nat → Int) (hR : ∀ j, 0 ≤ R j ∧ R j ≤ 255) (n0 : Nat) (hb : qfRowB n0) (hc : ¬ ((2 : Int) > ((n0 : Int) - 28))) : @EntOK (qfRowV R hR n0) Try.prog qfRows192 := by
  letI : Env := qfRowV R hR n0
  exact entCmp (k := .i64) (a := 2) (b := ((n0 : Int) - 28)) rfl rfl (by show some (decide ((2 : Int) > ((n0 : Int) - 28))) = some false; rw [decide_eq_false (by omega)])
def qfRows193 : Ent := .slen 0 61 (.chan (some 100))
theorem qfRows193_ok (R : Nat → Int) (hR : ∀ j, 0 ≤ R j ∧ R j ≤ 255) (n0 : Nat) (hb : qfRowB n0) (hc : 30 ≤ n0) : @EntOK (qfRowV R hR n0) Try.prog qfRows193 := by
  letI : Env := qfRowV R hR n0
  exact entSlen (n := n0) (j := 100) (c := ((n0 : Int) - 30)) rfl rfl (by simp; try omega) (by first | exact .inl rfl | (right; omega))
def qfRows194 : Ent := .conv .u32 (.chan (some 1048604)) (.chan (some 101))
theorem qfRows194_ok (R : Nat → Int) (hR : ∀ j, 0 ≤ R j ∧ R j ≤ 255) (n0 : Nat) (hb : qfRowB n0) : @EntOK (qfRowV R hR n0) Try.prog qfRows194 := by
  letI : Env := qfRowV R hR n0
  have rb1048604 := hR 1048604; exact entConvV (k := .u32) (l := .u8) (a := (R 1048604)) (c := (R 1048604)) rfl rfl (by rw [IntWalk.u32_in _ (by omega)])
def qfRows195 : Ent := .bin .or (.int .u32 0) (.chan (some 101)) (.chan (some 101))
theorem qfRows195_ok (R : Nat → Int) (hR : ∀ j, 0 ≤ R j ∧ R j ≤ 255) (n0 : Nat) (hb : qfRowB n0) : @EntOK (qfRowV R hR n0) Try.prog qfRows195 := by
  letI : Env := qfRowV R hR n0
  have rb1048604 := hR 1048604; exact entOrV (k := .u32) (a := 0) (b := (R 1048604)) (c := (R 1048604)) rfl rfl rfl (by have h := join_u32 0 (R 1048604) 8 256 (by decide) (by omega) (by omega) (by omega) (by omega); simpa using h)
def qfRows196 : Ent := .bin .shl (.chan (some 101)) (.int .u64 8) (.chan (some 102))
theorem qfRows196_ok (R : Nat → Int) (hR : ∀ j, 0 ≤ R j ∧ R j ≤ 255) (n0 : Nat) (hb : qfRowB n0) : @EntOK (qfRowV R hR n0) Try.prog qfRows196 := by
  letI : Env := qfRowV R hR n0
  have rb1048604 := hR 1048604; exact entShlV (k := .u32) (l := .u64) (a := (R 1048604)) (c := ((R 1048604) * 256)) (s := 8) rfl rfl rfl (by decide) (by show IntKind.u32.wrap ((R 1048604) * 2 ^ 8) = ((R 1048604) * 256); rw [show ((2 : Int) ^ 8) = 256 from by decide, IntWalk.u32_in _ (by omega)])
def qfRows197 : Ent := .conv .u32 (.chan (some 1048605)) (.chan (some 103))
theorem qfRows197_ok (R : Nat → Int) (hR : ∀ j, 0 ≤ R j ∧ R j ≤ 255) (n0 : Nat) (hb : qfRowB n0) : @EntOK (qfRowV R hR n0) Try.prog qfRows197 := by
  letI : Env := qfRowV R hR n0
  have rb1048605 := hR 1048605; exact entConvV (k := .u32) (l := .u8) (a := (R 1048605)) (c := (R 1048605)) rfl rfl (by rw [IntWalk.u32_in _ (by omega)])
def qfRows198 : Ent := .bin .or (.chan (some 102)) (.chan (some 103)) (.chan (some 104))
theorem qfRows198_ok (R : Nat → Int) (hR : ∀ j, 0 ≤ R j ∧ R j ≤ 255) (n0 : Nat) (hb : qfRowB n0) : @EntOK (qfRowV R hR n0) Try.prog qfRows198 := by
  letI : Env := qfRowV R hR n0
  have rb1048604 := hR 1048604; have rb1048605 := hR 1048605; exact entOrV (k := .u32) (a := ((R 1048604) * 256)) (b := (R 1048605)) (c := (((R 1048604) * 256) + (R 1048605))) rfl rfl rfl (by exact join_u32 (R 1048604) (R 1048605) 8 256 (by decide) (by omega) (by omega) (by omega) (by omega))
def qfRows199 : Ent := .conv .i64 (.chan (some 104)) (.chan (some 105))
theorem qfRows199_ok (R : Nat → Int) (hR : ∀ j, 0 ≤ R j ∧ R j ≤ 255) (n0 : Nat) (hb : qfRowB n0) : @EntOK (qfRowV R hR n0) Try.prog qfRows199 := by
  letI : Env := qfRowV R hR n0
  have rb1048604 := hR 1048604; have rb1048605 := hR 1048605; exact entConvV (k := .i64) (l := .u32) (a := (((R 1048604) * 256) + (R 1048605))) (c := (((R 1048604) * 256) + (R 1048605))) rfl rfl (by rw [IntWalk.i64_in _ (by omega)])
def qfRows200 : Ent := .bin .gtr (.int .i64 2) (.chan (some 100)) (.bool false)
theorem qfRows200_ok (R : Nat → Int) (hR : ∀ j, 0 ≤ R j ∧ R j ≤ 255) (n0 : Nat) (hb : qfRowB n0) (hc : ¬ (2 > ((n0 : Int) - 30))) : @EntOK (qfRowV R hR n0) Try.prog qfRows200 := by
  letI : Env := qfRowV R hR n0
  exact entCmp (k := .i64) (a := 2) (b := ((n0 : Int) - 30)) rfl rfl (by show some (decide ((2 : Int) > ((n0 : Int) - 30))) = some false; rw [decide_eq_false (by omega)])
def qfRows201 : Ent := .slen 0 65 (.chan (some 106))
theorem qfRows201_ok (R : Nat → Int) (hR : ∀ j, 0 ≤ R j ∧ R j ≤ 255) (n0 : Nat) (hb : qfRowB n0) (hc : 32 ≤ n0) : @EntOK (qfRowV R hR n0) Try.prog qfRows201 := by
  letI : Env := qfRowV R hR n0
  exact entSlen (n := n0) (j := 106) (c := ((n0 : Int) - 32)) rfl rfl (by simp; try omega) (by first | exact .inl rfl | (right; omega))
def qfRows202 : Ent := .conv .u32 (.chan (some 1048606)) (.chan (some 107))
theorem qfRows202_ok (R : Nat → Int) (hR : ∀ j, 0 ≤ R j ∧ R j ≤ 255) (n0 : Nat) (hb : qfRowB n0) : @EntOK (qfRowV R hR n0) Try.prog qfRows202 := by
  letI : Env := qfRowV R hR n0
  have rb1048606 := hR 1048606; exact entConvV (k := .u32) (l := .u8) (a := (R 1048606)) (c := (R 1048606)) rfl rfl (by rw [IntWalk.u32_in _ (by omega)])
def qfRows203 : Ent := .bin .or (.int .u32 0) (.chan (some 107)) (.chan (some 107))
theorem qfRows203_ok (R : Nat → Int) (hR : ∀ j, 0 ≤ R j ∧ R j ≤ 255) (n0 : Nat) (hb : qfRowB n0) : @EntOK (qfRowV R hR n0) Try.prog qfRows203 := by
  letI : Env := qfRowV R hR n0
  have rb1048606 := hR 1048606; exact entOrV (k := .u32) (a := 0) (b := (R 1048606)) (c := (R 1048606)) rfl rfl rfl (by have h := join_u32 0 (R 1048606) 8 256 (by decide) (by omega) (by omega) (by omega) (by omega); simpa using h)
def qfRows204 : Ent := .bin .shl (.chan (some 107)) (.int .u64 8) (.chan (some 108))
theorem qfRows204_ok (R : Nat → Int) (hR : ∀ j, 0 ≤ R j ∧ R j ≤ 255) (n0 : Nat) (hb : qfRowB n0) : @EntOK (qfRowV R hR n0) Try.prog qfRows204 := by
  letI : Env := qfRowV R hR n0
  have rb1048606 := hR 1048606; exact entShlV (k := .u32) (l := .u64) (a := (R 1048606)) (c := ((R 1048606) * 256)) (s := 8) rfl rfl rfl (by decide) (by show IntKind.u32.wrap ((R 1048606) * 2 ^ 8) = ((R 1048606) * 256); rw [show ((2 : Int) ^ 8) = 256 from by decide, IntWalk.u32_in _ (by omega)])
def qfRows205 : Ent := .conv .u32 (.chan (some 1048607)) (.chan (some 109))
theorem qfRows205_ok (R : Nat → Int) (hR : ∀ j, 0 ≤ R j ∧ R j ≤ 255) (n0 : Nat) (hb : qfRowB n0) : @EntOK (qfRowV R hR n0) Try.prog qfRows205 := by
  letI : Env := qfRowV R hR n0
  have rb1048607 := hR 1048607; exact entConvV (k := .u32) (l := .u8) (a := (R 1048607)) (c := (R 1048607)) rfl rfl (by rw [IntWalk.u32_in _ (by omega)])
def qfRows206 : Ent := .bin .or (.chan (some 108)) (.chan (some 109)) (.chan (some 110))
theorem qfRows206_ok (R : Nat → Int) (hR : ∀ j, 0 ≤ R j ∧ R j ≤ 255) (n0 : Nat) (hb : qfRowB n0) : @EntOK (qfRowV R hR n0) Try.prog qfRows206 := by
  letI : Env := qfRowV R hR n0
  have rb1048606 := hR 1048606; have rb1048607 := hR 1048607; exact entOrV (k := .u32) (a := ((R 1048606) * 256)) (b := (R 1048607)) (c := (((R 1048606) * 256) + (R 1048607))) rfl rfl rfl (by exact join_u32 (R 1048606) (R 1048607) 8 256 (by decide) (by omega) (by omega) (by omega) (by omega))
def qfRows207 : Ent := .conv .i64 (.chan (some 110)) (.chan (some 111))
theorem qfRows207_ok (R : Nat → Int) (hR : ∀ j, 0 ≤ R j ∧ R j ≤ 255) (n0 : Nat) (hb : qfRowB n0) : @EntOK (qfRowV R hR n0) Try.prog qfRows207 := by
  letI : Env := qfRowV R hR n0
  have rb1048606 := hR 1048606; have rb1048607 := hR 1048607; exact entConvV (k := .i64) (l := .u32) (a := (((R 1048606) * 256) + (R 1048607))) (c := (((R 1048606) * 256) + (R 1048607))) rfl rfl (by rw [IntWalk.i64_in _ (by omega)])
def qfRows208 : Ent := .bin .geq (.chan (some 0)) (.int .i64 32) (.bool true)
theorem qfRows208_ok (R : Nat → Int) (hR : ∀ j, 0 ≤ R j ∧ R j ≤ 255) (n0 : Nat) (hb : qfRowB n0) (hc : (n0 : Int) ≥ 32) : @EntOK (qfRowV R hR n0) Try.prog qfRows208 := by
  letI : Env := qfRowV R hR n0
  exact entCmp (k := .i64) (a := (n0 : Int)) (b := 32) rfl rfl (by show some (decide (((n0 : Int) : Int) ≥ 32)) = some true; rw [decide_eq_true (by omega)])
def qfRows209 : Ent := .conv .i64 (.chan (some 1048604)) (.chan (some 112))
theorem qfRows209_ok (R : Nat → Int) (hR : ∀ j, 0 ≤ R j ∧ R j ≤ 255) (n0 : Nat) (hb : qfRowB n0) : @EntOK (qfRowV R hR n0) Try.prog qfRows209 := by
  letI : Env := qfRowV R hR n0
  have rb1048604 := hR 1048604; exact entConvV (k := .i64) (l := .u8) (a := (R 1048604)) (c := (R 1048604)) rfl rfl (by rw [IntWalk.i64_in _ (by omega)])
def qfRows210 : Ent := .bin .shl (.chan (some 112)) (.int .u64 8) (.chan (some 113))
theorem qfRows210_ok (R : Nat → Int) (hR : ∀ j, 0 ≤ R j ∧ R j ≤ 255) (n0 : Nat) (hb : qfRowB n0) : @EntOK (qfRowV R hR n0) Try.prog qfRows210 := by
  letI : Env := qfRowV R hR n0
  have rb1048604 := hR 1048604; exact entShlV (k := .i64) (l := .u64) (a := (R 1048604)) (c := ((R 1048604) * 256)) (s := 8) rfl rfl rfl (by decide) (by show IntKind.i64.wrap ((R 1048604) * 2 ^ 8) = ((R 1048604) * 256); rw [show ((2 : Int) ^ 8) = 256 from by decide, IntWalk.i64_in _ (by omega)])
def qfRows211 : Ent := .conv .i64 (.chan (some 1048605)) (.chan (some 114))
theorem qfRows211_ok (R : Nat → Int) (hR : ∀ j, 0 ≤ R j ∧ R j ≤ 255) (n0 : Nat) (hb : qfRowB n0) : @EntOK (qfRowV R hR n0) Try.prog qfRows211 := by
  letI : Env := qfRowV R hR n0
  have rb1048605 := hR 1048605; exact entConvV (k := .i64) (l := .u8) (a := (R 1048605)) (c := (R 1048605)) rfl rfl (by rw [IntWalk.i64_in _ (by omega)])
def qfRows212 : Ent := .bin .or (.chan (some 113)) (.chan (some 114)) (.chan (some 105))
theorem qfRows212_ok (R : Nat → Int) (hR : ∀ j, 0 ≤ R j ∧ R j ≤ 255) (n0 : Nat) (hb : qfRowB n0) : @EntOK (qfRowV R hR n0) Try.prog qfRows212 := by
  letI : Env := qfRowV R hR n0
  have rb1048604 := hR 1048604; have rb1048605 := hR 1048605; exact entOrV (k := .i64) (a := ((R 1048604) * 256)) (b := (R 1048605)) (c := (((R 1048604) * 256) + (R 1048605))) rfl rfl rfl (by exact join_i64 (R 1048604) (R 1048605) 8 256 (by decide) (by omega) (by omega) (by omega) (by omega))
def qfRows213 : Ent := .conv .i64 (.chan (some 1048606)) (.chan (some 115))
theorem qfRows213_ok (R : Nat → Int) (hR : ∀ j, 0 ≤ R j ∧ R j ≤ 255) (n0 : Nat) (hb : qfRowB n0) : @EntOK (qfRowV R hR n0) Try.prog qfRows213 := by
  letI : Env := qfRowV R hR n0
  have rb1048606 := hR 1048606; exact entConvV (k := .i64) (l := .u8) (a := (R 1048606)) (c := (R 1048606)) rfl rfl (by rw [IntWalk.i64_in _ (by omega)])
def qfRows214 : Ent := .bin .shl (.chan (some 115)) (.int .u64 8) (.chan (some 116))
theorem qfRows214_ok (R : Nat → Int) (hR : ∀ j, 0 ≤ R j ∧ R j ≤ 255) (n0 : Nat) (hb : qfRowB n0) : @EntOK (qfRowV R hR n0) Try.prog qfRows214 := by
  letI : Env := qfRowV R hR n0
  have rb1048606 := hR 1048606; exact entShlV (k := .i64) (l := .u64) (a := (R 1048606)) (c := ((R 1048606) * 256)) (s := 8) rfl rfl rfl (by decide) (by show IntKind.i64.wrap ((R 1048606) * 2 ^ 8) = ((R 1048606) * 256); rw [show ((2 : Int) ^ 8) = 256 from by decide, IntWalk.i64_in _ (by omega)])
def qfRows215 : Ent := .conv .i64 (.chan (some 1048607)) (.chan (some 117))
theorem qfRows215_ok (R : Nat → Int) (hR : ∀ j, 0 ≤ R j ∧ R j ≤ 255) (n0 : Nat) (hb : qfRowB n0) : @EntOK (qfRowV R hR n0) Try.prog qfRows215 := by
  letI : Env := qfRowV R hR n0
  have rb1048607 := hR 1048607; exact entConvV (k := .i64) (l := .u8) (a := (R 1048607)) (c := (R 1048607)) rfl rfl (by rw [IntWalk.i64_in _ (by omega)])
def qfRows216 : Ent := .bin .or (.chan (some 116)) (.chan (some 117)) (.chan (some 111))
theorem qfRows216_ok (R : Nat → Int) (hR : ∀ j, 0 ≤ R j ∧ R j ≤ 255) (n0 : Nat) (hb : qfRowB n0) : @EntOK (qfRowV R hR n0) Try.prog qfRows216 := by
  letI : Env := qfRowV R hR n0
  have rb1048606 := hR 1048606; have rb1048607 := hR 1048607; exact entOrV (k := .i64) (a := ((R 1048606) * 256)) (b := (R 1048607)) (c := (((R 1048606) * 256) + (R 1048607))) rfl rfl rfl (by exact join_i64 (R 1048606) (R 1048607) 8 256 (by decide) (by omega) (by omega) (by omega) (by omega))
def qfRows217 : Ent := .eqs false 50 [.chan (some 17), .chan (some 34), .chan (some 105), .chan (some 45), .chan (some 111)] [.chan (some 17), .chan (some 54), .chan (some 105), .chan (some 60), .chan (some 111)] true
theorem qfRows217_ok (R : Nat → Int) (hR : ∀ j, 0 ≤ R j ∧ R j ≤ 255) (n0 : Nat) (hb : qfRowB n0) : @EntOK (qfRowV R hR n0) Try.prog qfRows217 := by
  letI : Env := qfRowV R hR n0
  have rb1048588 := hR 1048588; have rb1048589 := hR 1048589; have rb1048590 := hR 1048590; have rb1048591 := hR 1048591; have rb1048592 := hR 1048592; have rb1048593 := hR 1048593; have rb1048594 := hR 1048594; have rb1048595 := hR 1048595; exact ⟨by intro v hv; simp only [List.mem_cons, List.not_mem_nil, or_false] at hv; rcases hv with rfl | rfl | rfl | rfl | rfl <;> first | exact .inl ⟨_, _, rfl⟩ | exact .inr ⟨_, rfl⟩, by intro v hv; simp only [List.mem_cons, List.not_mem_nil, or_false] at hv; rcases hv with rfl | rfl | rfl | rfl | rfl <;> first | exact .inl ⟨_, _, rfl⟩ | exact .inr ⟨_, rfl⟩, by intro a1 a2 w; have e0 : (((((((R 1048588) * 256) + (R 1048589)) * 256) + (R 1048590)) * 256) + (R 1048591)) = (((((R 1048588) * 16777216) + ((R 1048589) * 65536)) + ((R 1048590) * 256)) + (R 1048591)) := (by omega); have e1 : (((((((R 1048592) * 256) + (R 1048593)) * 256) + (R 1048594)) * 256) + (R 1048595)) = (((((R 1048592) * 16777216) + ((R 1048593) * 65536)) + ((R 1048594) * 256)) + (R 1048595)) := (by omega); exact eqFlow _ _ _ _ _ _ _ _ _ _ (by omega) (by omega) (by omega) (by omega) (by omega) a1 a2 w⟩
def qfRows218 : Ent := .bin .and (.chan (some 3)) (.int .i64 15) (.int .i64 8)
theorem qfRows218_ok (R : Nat → Int) (hR : ∀ j, 0 ≤ R j ∧ R j ≤ 255) (n0 : Nat) (hb : qfRowB n0) (hc : ((R 1048576) % 16) = 8) : @EntOK (qfRowV R hR n0) Try.prog qfRows218 := by
  letI : Env := qfRowV R hR n0
  have rb1048576 := hR 1048576; exact entAndI (k := .i64) (a := (R 1048576)) (b := 15) (c := 8) rfl rfl (by rw [show band .i64 (R 1048576) 15 = ((R 1048576) % 16) from (by exact mask_i64 (R 1048576) 4 15 16 (by decide) (by decide) (by decide))]; omega)
def qfRows219 : Ent := .bin .gtr (.int .i64 12) (.chan (some 35)) (.bool true)
theorem qfRows219_ok (R : Nat → Int) (hR : ∀ j, 0 ≤ R j ∧ R j ≤ 255) (n0 : Nat) (hb : qfRowB n0) (hc : 12 > ((n0 : Int) - 20)) : @EntOK (qfRowV R hR n0) Try.prog qfRows219 := by
  letI : Env := qfRowV R hR n0
  exact entCmp (k := .i64) (a := 12) (b := ((n0 : Int) - 20)) rfl rfl (by show some (decide ((12 : Int) > ((n0 : Int) - 20))) = some true; rw [decide_eq_true (by omega)])
def qfRows220 : Ent := .bin .rem (.chan (some 1048576)) (.int .u8 16) (.int .u8 8)
theorem qfRows220_ok (R : Nat → Int) (hR : ∀ j, 0 ≤ R j ∧ R j ≤ 255) (n0 : Nat) (hb : qfRowB n0) (hc : ((R 1048576) % 16) = 8) : @EntOK (qfRowV R hR n0) Try.prog qfRows220 := by
  letI : Env := qfRowV R hR n0
  have rb1048576 := hR 1048576; exact entRemI (k := .u8) (a := (R 1048576)) (b := 16) (c := 8) rfl rfl (by omega) (by rw [Int.tmod_eq_emod_of_nonneg (by omega)]; omega)
def qfRows221 : Ent := .bin .gtr (.int .i64 32) (.chan (some 0)) (.bool true)
theorem qfRows221_ok (R : Nat → Int) (hR : ∀ j, 0 ≤ R j ∧ R j ≤ 255) (n0 : Nat) (hb : qfRowB n0) (hc : 32 > (n0 : Int)) : @EntOK (qfRowV R hR n0) Try.prog qfRows221 := by
  letI : Env := qfRowV R hR n0
  exact entCmp (k := .i64) (a := 32) (b := (n0 : Int)) rfl rfl (by show some (decide ((32 : Int) > (n0 : Int))) = some true; rw [decide_eq_true (by omega)])
def qfRows222 : Ent := .bin .gtr (.int .i64 12) (.chan (some 35)) (.bool false)
theorem qfRows222_ok (R : Nat → Int) (hR : ∀ j, 0 ≤ R j ∧ R j ≤ 255) (n0 : Nat) (hb : qfRowB n0) (hc : ¬ (12 > ((n0 : Int) - 20))) : @EntOK (qfRowV R hR n0) Try.prog qfRows222 := by
  letI : Env := qfRowV R hR n0
  exact entCmp (k := .i64) (a := 12) (b := ((n0 : Int) - 20)) rfl rfl (by show some (decide ((12 : Int) > ((n0 : Int) - 20))) = some false; rw [decide_eq_false (by omega)])
def qfRows223 : Ent := .bin .gtr (.int .i64 0) (.chan (some 106)) (.bool false)
theorem qfRows223_ok (R : Nat → Int) (hR : ∀ j, 0 ≤ R j ∧ R j ≤ 255) (n0 : Nat) (hb : qfRowB n0) (hc : ¬ (0 > ((n0 : Int) - 32))) : @EntOK (qfRowV R hR n0) Try.prog qfRows223 := by
  letI : Env := qfRowV R hR n0
  exact entCmp (k := .i64) (a := 0) (b := ((n0 : Int) - 32)) rfl rfl (by show some (decide ((0 : Int) > ((n0 : Int) - 32))) = some false; rw [decide_eq_false (by omega)])
def qfRows224 : Ent := .bin .geq (.chan (some 106)) (.int .i64 4) (.bool false)
theorem qfRows224_ok (R : Nat → Int) (hR : ∀ j, 0 ≤ R j ∧ R j ≤ 255) (n0 : Nat) (hb : qfRowB n0) (hc : ¬ (((n0 : Int) - 32) ≥ 4)) : @EntOK (qfRowV R hR n0) Try.prog qfRows224 := by
  letI : Env := qfRowV R hR n0
  exact entCmp (k := .i64) (a := ((n0 : Int) - 32)) (b := 4) rfl rfl (by show some (decide ((((n0 : Int) - 32) : Int) ≥ 4)) = some false; rw [decide_eq_false (by omega)])
def qfRows225 : Ent := .bin .gtr (.int .i64 32) (.chan (some 0)) (.bool false)
theorem qfRows225_ok (R : Nat → Int) (hR : ∀ j, 0 ≤ R j ∧ R j ≤ 255) (n0 : Nat) (hb : qfRowB n0) (hc : ¬ (32 > (n0 : Int))) : @EntOK (qfRowV R hR n0) Try.prog qfRows225 := by
  letI : Env := qfRowV R hR n0
  exact entCmp (k := .i64) (a := 32) (b := (n0 : Int)) rfl rfl (by show some (decide ((32 : Int) > (n0 : Int))) = some false; rw [decide_eq_false (by omega)])
def qfRows226 : Ent := .bin .geq (.chan (some 0)) (.int .i64 36) (.bool false)
theorem qfRows226_ok (R : Nat → Int) (hR : ∀ j, 0 ≤ R j ∧ R j ≤ 255) (n0 : Nat) (hb : qfRowB n0) (hc : ¬ ((n0 : Int) ≥ 36)) : @EntOK (qfRowV R hR n0) Try.prog qfRows226 := by
  letI : Env := qfRowV R hR n0
  exact entCmp (k := .i64) (a := (n0 : Int)) (b := 36) rfl rfl (by show some (decide (((n0 : Int) : Int) ≥ 36)) = some false; rw [decide_eq_false (by omega)])
def qfRows227 : Ent := .bin .geq (.chan (some 106)) (.int .i64 4) (.bool true)
theorem qfRows227_ok (R : Nat → Int) (hR : ∀ j, 0 ≤ R j ∧ R j ≤ 255) (n0 : Nat) (hb : qfRowB n0) (hc : ((n0 : Int) - 32) ≥ 4) : @EntOK (qfRowV R hR n0) Try.prog qfRows227 := by
  letI : Env := qfRowV R hR n0
  exact entCmp (k := .i64) (a := ((n0 : Int) - 32)) (b := 4) rfl rfl (by show some (decide ((((n0 : Int) - 32) : Int) ≥ 4)) = some true; rw [decide_eq_true (by omega)])
def qfRows228 : Ent := .bin .gtr (.int .i64 2) (.chan (some 106)) (.bool false)
theorem qfRows228_ok (R : Nat → Int) (hR : ∀ j, 0 ≤ R j ∧ R j ≤ 255) (n0 : Nat) (hb : qfRowB n0) (hc : ¬ ((2 : Int) > ((n0 : Int) - 32))) : @EntOK (qfRowV R hR n0) Try.prog qfRows228 := by
  letI : Env := qfRowV R hR n0
  exact entCmp (k := .i64) (a := 2) (b := ((n0 : Int) - 32)) rfl rfl (by show some (decide ((2 : Int) > ((n0 : Int) - 32))) = some false; rw [decide_eq_false (by omega)])
def qfRows229 : Ent := .slen 0 69 (.chan (some 118))
theorem qfRows229_ok (R : Nat → Int) (hR : ∀ j, 0 ≤ R j ∧ R j ≤ 255) (n0 : Nat) (hb : qfRowB n0) (hc : 34 ≤ n0) : @EntOK (qfRowV R hR n0) Try.prog qfRows229 := by
  letI : Env := qfRowV R hR n0
  exact entSlen (n := n0) (j := 118) (c := ((n0 : Int) - 34)) rfl rfl (by simp; try omega) (by first | exact .inl rfl | (right; omega))
def qfRows230 : Ent := .conv .u32 (.chan (some 1048608)) (.chan (some 119))
theorem qfRows230_ok (R : Nat → Int) (hR : ∀ j, 0 ≤ R j ∧ R j ≤ 255) (n0 : Nat) (hb : qfRowB n0) : @EntOK (qfRowV R hR n0) Try.prog qfRows230 := by
  letI : Env := qfRowV R hR n0
  have rb1048608 := hR 1048608; exact entConvV (k := .u32) (l := .u8) (a := (R 1048608)) (c := (R 1048608)) rfl rfl (by rw [IntWalk.u32_in _ (by omega)])
def qfRows231 : Ent := .bin .or (.int .u32 0) (.chan (some 119)) (.chan (some 119))
theorem qfRows231_ok (R : Nat → Int) (hR : ∀ j, 0 ≤ R j ∧ R j ≤ 255) (n0 : Nat) (hb : qfRowB n0) : @EntOK (qfRowV R hR n0) Try.prog qfRows231 := by
  letI : Env := qfRowV R hR n0
  have rb1048608 := hR 1048608; exact entOrV (k := .u32) (a := 0) (b := (R 1048608)) (c := (R 1048608)) rfl rfl rfl (by have h := join_u32 0 (R 1048608) 8 256 (by decide) (by omega) (by omega) (by omega) (by omega); simpa using h)
def qfRows232 : Ent := .bin .shl (.chan (some 119)) (.int .u64 8) (.chan (some 120))
theorem qfRows232_ok (R : Nat → Int) (hR : ∀ j, 0 ≤ R j ∧ R j ≤ 255) (n0 : Nat) (hb : qfRowB n0) : @EntOK (qfRowV R hR n0) Try.prog qfRows232 := by
  letI : Env := qfRowV R hR n0
  have rb1048608 := hR 1048608; exact entShlV (k := .u32) (l := .u64) (a := (R 1048608)) (c := ((R 1048608) * 256)) (s := 8) rfl rfl rfl (by decide) (by show IntKind.u32.wrap ((R 1048608) * 2 ^ 8) = ((R 1048608) * 256); rw [show ((2 : Int) ^ 8) = 256 from by decide, IntWalk.u32_in _ (by omega)])
def qfRows233 : Ent := .conv .u32 (.chan (some 1048609)) (.chan (some 121))
theorem qfRows233_ok (R : Nat → Int) (hR : ∀ j, 0 ≤ R j ∧ R j ≤ 255) (n0 : Nat) (hb : qfRowB n0) : @EntOK (qfRowV R hR n0) Try.prog qfRows233 := by
  letI : Env := qfRowV R hR n0
  have rb1048609 := hR 1048609; exact entConvV (k := .u32) (l := .u8) (a := (R 1048609)) (c := (R 1048609)) rfl rfl (by rw [IntWalk.u32_in _ (by omega)])
def qfRows234 : Ent := .bin .or (.chan (some 120)) (.chan (some 121)) (.chan (some 122))
theorem qfRows234_ok (R : Nat → Int) (hR : ∀ j, 0 ≤ R j ∧ R j ≤ 255) (n0 : Nat) (hb : qfRowB n0) : @EntOK (qfRowV R hR n0) Try.prog qfRows234 := by
  letI : Env := qfRowV R hR n0
  have rb1048608 := hR 1048608; have rb1048609 := hR 1048609; exact entOrV (k := .u32) (a := ((R 1048608) * 256)) (b := (R 1048609)) (c := (((R 1048608) * 256) + (R 1048609))) rfl rfl rfl (by exact join_u32 (R 1048608) (R 1048609) 8 256 (by decide) (by omega) (by omega) (by omega) (by omega))
def qfRows235 : Ent := .conv .i64 (.chan (some 122)) (.chan (some 123))
theorem qfRows235_ok (R : Nat → Int) (hR : ∀ j, 0 ≤ R j ∧ R j ≤ 255) (n0 : Nat) (hb : qfRowB n0) : @EntOK (qfRowV R hR n0) Try.prog qfRows235 := by
  letI : Env := qfRowV R hR n0
  have rb1048608 := hR 1048608; have rb1048609 := hR 1048609; exact entConvV (k := .i64) (l := .u32) (a := (((R 1048608) * 256) + (R 1048609))) (c := (((R 1048608) * 256) + (R 1048609))) rfl rfl (by rw [IntWalk.i64_in _ (by omega)])
def qfRows236 : Ent := .bin .gtr (.int .i64 2) (.chan (some 118)) (.bool false)
theorem qfRows236_ok (R : Nat → Int) (hR : ∀ j, 0 ≤ R j ∧ R j ≤ 255) (n0 : Nat) (hb : qfRowB n0) (hc : ¬ (2 > ((n0 : Int) - 34))) : @EntOK (qfRowV R hR n0) Try.prog qfRows236 := by
  letI : Env := qfRowV R hR n0
  exact entCmp (k := .i64) (a := 2) (b := ((n0 : Int) - 34)) rfl rfl (by show some (decide ((2 : Int) > ((n0 : Int) - 34))) = some false; rw [decide_eq_false (by omega)])
def qfRows237 : Ent := .slen 0 73 (.chan (some 124))
theorem qfRows237_ok (R : Nat → Int) (hR : ∀ j, 0 ≤ R j ∧ R j ≤ 255) (n0 : Nat) (hb : qfRowB n0) (hc : 36 ≤ n0) : @EntOK (qfRowV R hR n0) Try.prog qfRows237 := by
  letI : Env := qfRowV R hR n0
  exact entSlen (n := n0) (j := 124) (c := ((n0 : Int) - 36)) rfl rfl (by simp; try omega) (by first | exact .inl rfl | (right; omega))
def qfRows238 : Ent := .conv .u32 (.chan (some 1048610)) (.chan (some 125))
theorem qfRows238_ok (R : Nat → Int) (hR : ∀ j, 0 ≤ R j ∧ R j ≤ 255) (n0 : Nat) (hb : qfRowB n0) : @EntOK (qfRowV R hR n0) Try.prog qfRows238 := by
  letI : Env := qfRowV R hR n0
  have rb1048610 := hR 1048610; exact entConvV (k := .u32) (l := .u8) (a := (R 1048610)) (c := (R 1048610)) rfl rfl (by rw [IntWalk.u32_in _ (by omega)])
def qfRows239 : Ent := .bin .or (.int .u32 0) (.chan (some 125)) (.chan (some 125))
theorem qfRows239_ok (R : Nat → Int) (hR : ∀ j, 0 ≤ R j ∧ R j ≤ 255) (n0 : Nat) (hb : qfRowB n0) : @EntOK (qfRowV R hR n0) Try.prog qfRows239 := by
  letI : Env := qfRowV R hR n0
  have rb1048610 := hR 1048610; exact entOrV (k := .u32) (a := 0) (b := (R 1048610)) (c := (R 1048610)) rfl rfl rfl (by have h := join_u32 0 (R 1048610) 8 256 (by decide) (by omega) (by omega) (by omega) (by omega); simpa using h)
def qfRows240 : Ent := .bin .shl (.chan (some 125)) (.int .u64 8) (.chan (some 126))
theorem qfRows240_ok (R : Nat → Int) (hR : ∀ j, 0 ≤ R j ∧ R j ≤ 255) (n0 : Nat) (hb : qfRowB n0) : @EntOK (qfRowV R hR n0) Try.prog qfRows240 := by
  letI : Env := qfRowV R hR n0
  have rb1048610 := hR 1048610; exact entShlV (k := .u32) (l := .u64) (a := (R 1048610)) (c := ((R 1048610) * 256)) (s := 8) rfl rfl rfl (by decide) (by show IntKind.u32.wrap ((R 1048610) * 2 ^ 8) = ((R 1048610) * 256); rw [show ((2 : Int) ^ 8) = 256 from by decide, IntWalk.u32_in _ (by omega)])
def qfRows241 : Ent := .conv .u32 (.chan (some 1048611)) (.chan (some 127))
theorem qfRows241_ok (R : Nat → Int) (hR : ∀ j, 0 ≤ R j ∧ R j ≤ 255) (n0 : Nat) (hb : qfRowB n0) : @EntOK (qfRowV R hR n0) Try.prog qfRows241 := by
  letI : Env := qfRowV R hR n0
  have rb1048611 := hR 1048611; exact entConvV (k := .u32) (l := .u8) (a := (R 1048611)) (c := (R 1048611)) rfl rfl (by rw [IntWalk.u32_in _ (by omega)])
def qfRows242 : Ent := .bin .or (.chan (some 126)) (.chan (some 127)) (.chan (some 128))
theorem qfRows242_ok (R : Nat → Int) (hR : ∀ j, 0 ≤ R j ∧ R j ≤ 255) (n0 : Nat) (hb : qfRowB n0) : @EntOK (qfRowV R hR n0) Try.prog qfRows242 := by
  letI : Env := qfRowV R hR n0
  have rb1048610 := hR 1048610; have rb1048611 := hR 1048611; exact entOrV (k := .u32) (a := ((R 1048610) * 256)) (b := (R 1048611)) (c := (((R 1048610) * 256) + (R 1048611))) rfl rfl rfl (by exact join_u32 (R 1048610) (R 1048611) 8 256 (by decide) (by omega) (by omega) (by omega) (by omega))
def qfRows243 : Ent := .conv .i64 (.chan (some 128)) (.chan (some 129))
theorem qfRows243_ok (R : Nat → Int) (hR : ∀ j, 0 ≤ R j ∧ R j ≤ 255) (n0 : Nat) (hb : qfRowB n0) : @EntOK (qfRowV R hR n0) Try.prog qfRows243 := by
  letI : Env := qfRowV R hR n0
  have rb1048610 := hR 1048610; have rb1048611 := hR 1048611; exact entConvV (k := .i64) (l := .u32) (a := (((R 1048610) * 256) + (R 1048611))) (c := (((R 1048610) * 256) + (R 1048611))) rfl rfl (by rw [IntWalk.i64_in _ (by omega)])
def qfRows244 : Ent := .bin .geq (.chan (some 0)) (.int .i64 36) (.bool true)
theorem qfRows244_ok (R : Nat → Int) (hR : ∀ j, 0 ≤ R j ∧ R j ≤ 255) (n0 : Nat) (hb : qfRowB n0) (hc : (n0 : Int) ≥ 36) : @EntOK (qfRowV R hR n0) Try.prog qfRows244 := by
  letI : Env := qfRowV R hR n0
  exact entCmp (k := .i64) (a := (n0 : Int)) (b := 36) rfl rfl (by show some (decide (((n0 : Int) : Int) ≥ 36)) = some true; rw [decide_eq_true (by omega)])
def qfRows245 : Ent := .conv .i64 (.chan (some 1048608)) (.chan (some 130))
theorem qfRows245_ok (R : Nat → Int) (hR : ∀ j, 0 ≤ R j ∧ R j ≤ 255) (n0 : Nat) (hb : qfRowB n0) : @EntOK (qfRowV R hR n0) Try.prog qfRows245 := by
  letI : Env := qfRowV R hR n0
  have rb1048608 := hR 1048608; exact entConvV (k := .i64) (l := .u8) (a := (R 1048608)) (c := (R 1048608)) rfl rfl (by rw [IntWalk.i64_in _ (by omega)])
def qfRows246 : Ent := .bin .shl (.chan (some 130)) (.int .u64 8) (.chan (some 131))
theorem qfRows246_ok (R : Nat → Int) (hR : ∀ j, 0 ≤ R j ∧ R j ≤ 255) (n0 : Nat) (hb : qfRowB n0) : @EntOK (qfRowV R hR n0) Try.prog qfRows246 := by
  letI : Env := qfRowV R hR n0
  have rb1048608 := hR 1048608; exact entShlV (k := .i64) (l := .u64) (a := (R 1048608)) (c := ((R 1048608) * 256)) (s := 8) rfl rfl rfl (by decide) (by show IntKind.i64.wrap ((R 1048608) * 2 ^ 8) = ((R 1048608) * 256); rw [show ((2 : Int) ^ 8) = 256 from by decide, IntWalk.i64_in _ (by omega)])
def qfRows247 : Ent := .conv .i64 (.chan (some 1048609)) (.chan (some 132))
theorem qfRows247_ok (R : Nat → Int) (hR : ∀ j, 0 ≤ R j ∧ R j ≤ 255) (n0 : Nat) (hb : qfRowB n0) : @EntOK (qfRowV R hR n0) Try.prog qfRows247 := by
  letI : Env := qfRowV R hR n0
  have rb1048609 := hR 1048609; exact entConvV (k := .i64) (l := .u8) (a := (R 1048609)) (c := (R 1048609)) rfl rfl (by rw [IntWalk.i64_in _ (by omega)])
def qfRows248 : Ent := .bin .or (.chan (some 131)) (.chan (some 132)) (.chan (some 123))
theorem qfRows248_ok (R : Nat → Int) (hR : ∀ j, 0 ≤ R j ∧ R j ≤ 255) (n0 : Nat) (hb : qfRowB n0) : @EntOK (qfRowV R hR n0) Try.prog qfRows248 := by
  letI : Env := qfRowV R hR n0
  have rb1048608 := hR 1048608; have rb1048609 := hR 1048609; exact entOrV (k := .i64) (a := ((R 1048608) * 256)) (b := (R 1048609)) (c := (((R 1048608) * 256) + (R 1048609))) rfl rfl rfl (by exact join_i64 (R 1048608) (R 1048609) 8 256 (by decide) (by omega) (by omega) (by omega) (by omega))
def qfRows249 : Ent := .conv .i64 (.chan (some 1048610)) (.chan (some 133))
theorem qfRows249_ok (R : Nat → Int) (hR : ∀ j, 0 ≤ R j ∧ R j ≤ 255) (n0 : Nat) (hb : qfRowB n0) : @EntOK (qfRowV R hR n0) Try.prog qfRows249 := by
  letI : Env := qfRowV R hR n0
  have rb1048610 := hR 1048610; exact entConvV (k := .i64) (l := .u8) (a := (R 1048610)) (c := (R 1048610)) rfl rfl (by rw [IntWalk.i64_in _ (by omega)])
def qfRows250 : Ent := .bin .shl (.chan (some 133)) (.int .u64 8) (.chan (some 134))
theorem qfRows250_ok (R : Nat → Int) (hR : ∀ j, 0 ≤ R j ∧ R j ≤ 255) (n0 : Nat) (hb : qfRowB n0) : @EntOK (qfRowV R hR n0) Try.prog qfRows250 := by
  letI : Env := qfRowV R hR n0
  have rb1048610 := hR 1048610; exact entShlV (k := .i64) (l := .u64) (a := (R 1048610)) (c := ((R 1048610) * 256)) (s := 8) rfl rfl rfl (by decide) (by show IntKind.i64.wrap ((R 1048610) * 2 ^ 8) = ((R 1048610) * 256); rw [show ((2 : Int) ^ 8) = 256 from by decide, IntWalk.i64_in _ (by omega)])
def qfRows251 : Ent := .conv .i64 (.chan (some 1048611)) (.chan (some 135))
theorem qfRows251_ok (R : Nat → Int) (hR : ∀ j, 0 ≤ R j ∧ R j ≤ 255) (n0 : Nat) (hb : qfRowB n0) : @EntOK (qfRowV R hR n0) Try.prog qfRows251 := by
  letI : Env := qfRowV R hR n0
  have rb1048611 := hR 1048611; exact entConvV (k := .i64) (l := .u8) (a := (R 1048611)) (c := (R 1048611)) rfl rfl (by rw [IntWalk.i64_in _ (by omega)])
def qfRows252 : Ent := .bin .or (.chan (some 134)) (.chan (some 135)) (.chan (some 129))
theorem qfRows252_ok (R : Nat → Int) (hR : ∀ j, 0 ≤ R j ∧ R j ≤ 255) (n0 : Nat) (hb : qfRowB n0) : @EntOK (qfRowV R hR n0) Try.prog qfRows252 := by
  letI : Env := qfRowV R hR n0
  have rb1048610 := hR 1048610; have rb1048611 := hR 1048611; exact entOrV (k := .i64) (a := ((R 1048610) * 256)) (b := (R 1048611)) (c := (((R 1048610) * 256) + (R 1048611))) rfl rfl rfl (by exact join_i64 (R 1048610) (R 1048611) 8 256 (by decide) (by omega) (by omega) (by omega) (by omega))
def qfRows253 : Ent := .eqs false 50 [.chan (some 17), .chan (some 34), .chan (some 123), .chan (some 45), .chan (some 129)] [.chan (some 17), .chan (some 54), .chan (some 123), .chan (some 60), .chan (some 129)] true
theorem qfRows253_ok (R : Nat → Int) (hR : ∀ j, 0 ≤ R j ∧ R j ≤ 255) (n0 : Nat) (hb : qfRowB n0) : @EntOK (qfRowV R hR n0) Try.prog qfRows253 := by
  letI : Env := qfRowV R hR n0
  have rb1048588 := hR 1048588; have rb1048589 := hR 1048589; have rb1048590 := hR 1048590; have rb1048591 := hR 1048591; have rb1048592 := hR 1048592; have rb1048593 := hR 1048593; have rb1048594 := hR 1048594; have rb1048595 := hR 1048595; exact ⟨by intro v hv; simp only [List.mem_cons, List.not_mem_nil, or_false] at hv; rcases hv with rfl | rfl | rfl | rfl | rfl <;> first | exact .inl ⟨_, _, rfl⟩ | exact .inr ⟨_, rfl⟩, by intro v hv; simp only [List.mem_cons, List.not_mem_nil, or_false] at hv; rcases hv with rfl | rfl | rfl | rfl | rfl <;> first | exact .inl ⟨_, _, rfl⟩ | exact .inr ⟨_, rfl⟩, by intro a1 a2 w; have e0 : (((((((R 1048588) * 256) + (R 1048589)) * 256) + (R 1048590)) * 256) + (R 1048591)) = (((((R 1048588) * 16777216) + ((R 1048589) * 65536)) + ((R 1048590) * 256)) + (R 1048591)) := (by omega); have e1 : (((((((R 1048592) * 256) + (R 1048593)) * 256) + (R 1048594)) * 256) + (R 1048595)) = (((((R 1048592) * 16777216) + ((R 1048593) * 65536)) + ((R 1048594) * 256)) + (R 1048595)) := (by omega); exact eqFlow _ _ _ _ _ _ _ _ _ _ (by omega) (by omega) (by omega) (by omega) (by omega) a1 a2 w⟩
def qfRows254 : Ent := .bin .and (.chan (some 3)) (.int .i64 15) (.int .i64 9)
theorem qfRows254_ok (R : Nat → Int) (hR : ∀ j, 0 ≤ R j ∧ R j ≤ 255) (n0 : Nat) (hb : qfRowB n0) (hc : ((R 1048576) % 16) = 9) : @EntOK (qfRowV R hR n0) Try.prog qfRows254 := by
  letI : Env := qfRowV R hR n0
  have rb1048576 := hR 1048576; exact entAndI (k := .i64) (a := (R 1048576)) (b := 15) (c := 9) rfl rfl (by rw [show band .i64 (R 1048576) 15 = ((R 1048576) % 16) from (by exact mask_i64 (R 1048576) 4 15 16 (by decide) (by decide) (by decide))]; omega)
def qfRows255 : Ent := .bin .gtr (.int .i64 16) (.chan (some 35)) (.bool true)
theorem qfRows255_ok (R : Nat → Int) (hR : ∀ j, 0 ≤ R j ∧ R j ≤ 255) (n0 : Nat) (hb : qfRowB n0) (hc : 16 > ((n0 : Int) - 20)) : @EntOK (qfRowV R hR n0) Try.prog qfRows255 := by
  letI : Env := qfRowV R hR n0
  exact entCmp (k := .i64) (a := 16) (b := ((n0 : Int) - 20)) rfl rfl (by show some (decide ((16 : Int) > ((n0 : Int) - 20))) = some true; rw [decide_eq_true (by omega)])
def qfRows256 : Ent := .bin .rem (.chan (some 1048576)) (.int .u8 16) (.int .u8 9)
theorem qfRows256_ok (R : Nat → Int) (hR : ∀ j, 0 ≤ R j ∧ R j ≤ 255) (n0 : Nat) (hb : qfRowB n0) (hc : ((R 1048576) % 16) = 9) : @EntOK (qfRowV R hR n0) Try.prog qfRows256 := by
  letI : Env := qfRowV R hR n0
  have rb1048576 := hR 1048576; exact entRemI (k := .u8) (a := (R 1048576)) (b := 16) (c := 9) rfl rfl (by omega) (by rw [Int.tmod_eq_emod_of_nonneg (by omega)]; omega)
def qfRows257 : Ent := .bin .gtr (.int .i64 36) (.chan (some 0)) (.bool true)
theorem qfRows257_ok (R : Nat → Int) (hR : ∀ j, 0 ≤ R j ∧ R j ≤ 255) (n0 : Nat) (hb : qfRowB n0) (hc : 36 > (n0 : Int)) : @EntOK (qfRowV R hR n0) Try.prog qfRows257 := by
  letI : Env := qfRowV R hR n0
  exact entCmp (k := .i64) (a := 36) (b := (n0 : Int)) rfl rfl (by show some (decide ((36 : Int) > (n0 : Int))) = some true; rw [decide_eq_true (by omega)])
def qfRows258 : Ent := .bin .gtr (.int .i64 16) (.chan (some 35)) (.bool false)
theorem qfRows258_ok (R : Nat → Int) (hR : ∀ j, 0 ≤ R j ∧ R j ≤ 255) (n0 : Nat) (hb : qfRowB n0) (hc : ¬ (16 > ((n0 : Int) - 20))) : @EntOK (qfRowV R hR n0) Try.prog qfRows258 := by
  letI : Env := qfRowV R hR n0
  exact entCmp (k := .i64) (a := 16) (b := ((n0 : Int) - 20)) rfl rfl (by show some (decide ((16 : Int) > ((n0 : Int) - 20))) = some false; rw [decide_eq_false (by omega)])
def qfRows259 : Ent := .bin .gtr (.int .i64 0) (.chan (some 124)) (.bool false)
theorem qfRows259_ok (R : Nat → Int) (hR : ∀ j, 0 ≤ R j ∧ R j ≤ 255) (n0 : Nat) (hb : qfRowB n0) (hc : ¬ (0 > ((n0 : Int) - 36))) : @EntOK (qfRowV R hR n0) Try.prog qfRows259 := by
  letI : Env := qfRowV R hR n0
  exact entCmp (k := .i64) (a := 0) (b := ((n0 : Int) - 36)) rfl rfl (by show some (decide ((0 : Int) > ((n0 : Int) - 36))) = some false; rw [decide_eq_false (by omega)])
def qfRows260 : Ent := .bin .geq (.chan (some 124)) (.int .i64 4) (.bool false)
theorem qfRows260_ok (R : Nat → Int) (hR : ∀ j, 0 ≤ R j ∧ R j ≤ 255) (n0 : Nat) (hb : qfRowB n0) (hc : ¬ (((n0 : Int) - 36) ≥ 4)) : @EntOK (qfRowV R hR n0) Try.prog qfRows260 := by
  letI : Env := qfRowV R hR n0
  exact entCmp (k := .i64) (a := ((n0 : Int) - 36)) (b := 4) rfl rfl (by show some (decide ((((n0 : Int) - 36) : Int) ≥ 4)) = some false; rw [decide_eq_false (by omega)])
def qfRows261 : Ent := .bin .gtr (.int .i64 36) (.chan (some 0)) (.bool false)
theorem qfRows261_ok (R : Nat → Int) (hR : ∀ j, 0 ≤ R j ∧ R j ≤ 255) (n0 : Nat) (hb : qfRowB n0) (hc : ¬ (36 > (n0 : Int))) : @EntOK (qfRowV R hR n0) Try.prog qfRows261 := by
  letI : Env := qfRowV R hR n0
  exact entCmp (k := .i64) (a := 36) (b := (n0 : Int)) rfl rfl (by show some (decide ((36 : Int) > (n0 : Int))) = some false; rw [decide_eq_false (by omega)])
def qfRows262 : Ent := .bin .geq (.chan (some 0)) (.int .i64 40) (.bool false)
theorem qfRows262_ok (R : Nat → Int) (hR : ∀ j, 0 ≤ R j ∧ R j ≤ 255) (n0 : Nat) (hb : qfRowB n0) (hc : ¬ ((n0 : Int) ≥ 40)) : @EntOK (qfRowV R hR n0) Try.prog qfRows262 := by
  letI : Env := qfRowV R hR n0
  exact entCmp (k := .i64) (a := (n0 : Int)) (b := 40) rfl rfl (by show some (decide (((n0 : Int) : Int) ≥ 40)) = some false; rw [decide_eq_false (by omega)])
def qfRows263 : Ent := .bin .geq (.chan (some 124)) (.int .i64 4) (.bool true)
theorem qfRows263_ok (R : Nat → Int) (hR : ∀ j, 0 ≤ R j ∧ R j ≤ 255) (n0 : Nat) (hb : qfRowB n0) (hc : ((n0 : Int) - 36) ≥ 4) : @EntOK (qfRowV R hR n0) Try.prog qfRows263 := by
  letI : Env := qfRowV R hR n0
  exact entCmp (k := .i64) (a := ((n0 : Int) - 36)) (b := 4) rfl rfl (by show some (decide ((((n0 : Int) - 36) : Int) ≥ 4)) = some true; rw [decide_eq_true (by omega)])
def qfRows264 : Ent := .bin .gtr (.int .i64 2) (.chan (some 124)) (.bool false)
theorem qfRows264_ok (R : Nat → Int) (hR : ∀ j, 0 ≤ R j ∧ R j ≤ 255) (n0 : Nat) (hb : qfRowB n0) (hc : ¬ ((2 : Int) > ((n0 : Int) - 36))) : @EntOK (qfRowV R hR n0) Try.prog qfRows264 := by
  letI : Env := qfRowV R hR n0
  exact entCmp (k := .i64) (a := 2) (b := ((n0 : Int) - 36)) rfl rfl (by show some (decide ((2 : Int) > ((n0 : Int) - 36))) = some false; rw [decide_eq_false (by omega)])
def qfRows265 : Ent := .slen 0 77 (.chan (some 136))
theorem qfRows265_ok (R : Nat → Int) (hR : ∀ j, 0 ≤ R j ∧ R j ≤ 255) (n0 : Nat) (hb : qfRowB n0) (hc : 38 ≤ n0) : @EntOK (qfRowV R hR n0) Try.prog qfRows265 := by
  letI : Env := qfRowV R hR n0
  exact entSlen (n := n0) (j := 136) (c := ((n0 : Int) - 38)) rfl rfl (by simp; try omega) (by first | exact .inl rfl | (right; omega))
def qfRows266 : Ent := .conv .u32 (.chan (some 1048612)) (.chan (some 137))
theorem qfRows266_ok (R : Nat → Int) (hR : ∀ j, 0 ≤ R j ∧ R j ≤ 255) (n0 : Nat) (hb : qfRowB n0) : @EntOK (qfRowV R hR n0) Try.prog qfRows266 := by
  letI : Env := qfRowV R hR n0
  have rb1048612 := hR 1048612; exact entConvV (k := .u32) (l := .u8) (a := (R 1048612)) (c := (R 1048612)) rfl rfl (by rw [IntWalk.u32_in _ (by omega)])
def qfRows267 : Ent := .bin .or (.int .u32 0) (.chan (some 137)) (.chan (some 137))
theorem qfRows267_ok (R : Nat → Int) (hR : ∀ j, 0 ≤ R j ∧ R j ≤ 255) (n0 : Nat) (hb : qfRowB n0) : @EntOK (qfRowV R hR n0) Try.prog qfRows267 := by
  letI : Env := qfRowV R hR n0
  have rb1048612 := hR 1048612; exact entOrV (k := .u32) (a := 0) (b := (R 1048612)) (c := (R 1048612)) rfl rfl rfl (by have h := join_u32 0 (R 1048612) 8 256 (by decide) (by omega) (by omega) (by omega) (by omega); simpa using h)
def qfRows268 : Ent := .bin .shl (.chan (some 137)) (.int .u64 8) (.chan (some 138))
theorem qfRows268_ok (R : Nat → Int) (hR : ∀ j, 0 ≤ R j ∧ R j ≤ 255) (n0 : Nat) (hb : qfRowB n0) : @EntOK (qfRowV R hR n0) Try.prog qfRows268 := by
  letI : Env := qfRowV R hR n0
  have rb1048612 := hR 1048612; exact entShlV (k := .u32) (l := .u64) (a := (R 1048612)) (c := ((R 1048612) * 256)) (s := 8) rfl rfl rfl (by decide) (by show IntKind.u32.wrap ((R 1048612) * 2 ^ 8) = ((R 1048612) * 256); rw [show ((2 : Int) ^ 8) = 256 from by decide, IntWalk.u32_in _ (by omega)])
def qfRows269 : Ent := .conv .u32 (.chan (some 1048613)) (.chan (some 139))
theorem qfRows269_ok (R : Nat → Int) (hR : ∀ j, 0 ≤ R j ∧ R j ≤ 255) (n0 : Nat) (hb : qfRowB n0) : @EntOK (qfRowV R hR n0) Try.prog qfRows269 := by
  letI : Env := qfRowV R hR n0
  have rb1048613 := hR 1048613; exact entConvV (k := .u32) (l := .u8) (a := (R 1048613)) (c := (R 1048613)) rfl rfl (by rw [IntWalk.u32_in _ (by omega)])
def qfRows270 : Ent := .bin .or (.chan (some 138)) (.chan (some 139)) (.chan (some 140))
theorem qfRows270_ok (R : Nat → Int) (hR : ∀ j, 0 ≤ R j ∧ R j ≤ 255) (n0 : Nat) (hb : qfRowB n0) : @EntOK (qfRowV R hR n0) Try.prog qfRows270 := by
  letI : Env := qfRowV R hR n0
  have rb1048612 := hR 1048612; have rb1048613 := hR 1048613; exact entOrV (k := .u32) (a := ((R 1048612) * 256)) (b := (R 1048613)) (c := (((R 1048612) * 256) + (R 1048613))) rfl rfl rfl (by exact join_u32 (R 1048612) (R 1048613) 8 256 (by decide) (by omega) (by omega) (by omega) (by omega))
def qfRows271 : Ent := .conv .i64 (.chan (some 140)) (.chan (some 141))
theorem qfRows271_ok (R : Nat → Int) (hR : ∀ j, 0 ≤ R j ∧ R j ≤ 255) (n0 : Nat) (hb : qfRowB n0) : @EntOK (qfRowV R hR n0) Try.prog qfRows271 := by
  letI : Env := qfRowV R hR n0
  have rb1048612 := hR 1048612; have rb1048613 := hR 1048613; exact entConvV (k := .i64) (l := .u32) (a := (((R 1048612) * 256) + (R 1048613))) (c := (((R 1048612) * 256) + (R 1048613))) rfl rfl (by rw [IntWalk.i64_in _ (by omega)])
def qfRows272 : Ent := .bin .gtr (.int .i64 2) (.chan (some 136)) (.bool false)
theorem qfRows272_ok (R : Nat → Int) (hR : ∀ j, 0 ≤ R j ∧ R j ≤ 255) (n0 : Nat) (hb : qfRowB n0) (hc : ¬ (2 > ((n0 : Int) - 38))) : @EntOK (qfRowV R hR n0) Try.prog qfRows272 := by
  letI : Env := qfRowV R hR n0
  exact entCmp (k := .i64) (a := 2) (b := ((n0 : Int) - 38)) rfl rfl (by show some (decide ((2 : Int) > ((n0 : Int) - 38))) = some false; rw [decide_eq_false (by omega)])
def qfRows273 : Ent := .slen 0 81 (.chan (some 142))
theorem qfRows273_ok (R : Nat → Int) (hR : ∀ j, 0 ≤ R j ∧ R j ≤ 255) (n0 : Nat) (hb : qfRowB n0) (hc : 40 ≤ n0) : @EntOK (qfRowV R hR n0) Try.prog qfRows273 := by
  letI : Env := qfRowV R hR n0
  exact entSlen (n := n0) (j := 142) (c := ((n0 : Int) - 40)) rfl rfl (by simp; try omega) (by first | exact .inl rfl | (right; omega))
def qfRows274 : Ent := .conv .u32 (.chan (some 1048614)) (.chan (some 143))
theorem qfRows274_ok (R : Nat → Int) (hR : ∀ j, 0 ≤ R j ∧ R j ≤ 255) (n0 : Nat) (hb : qfRowB n0) : @EntOK (qfRowV R hR n0) Try.prog qfRows274 := by
  letI : Env := qfRowV R hR n0
  have rb1048614 := hR 1048614; exact entConvV (k := .u32) (l := .u8) (a := (R 1048614)) (c := (R 1048614)) rfl rfl (by rw [IntWalk.u32_in _ (by omega)])
def qfRows275 : Ent := .bin .or (.int .u32 0) (.chan (some 143)) (.chan (some 143))
theorem qfRows275_ok (R : Nat → Int) (hR : ∀ j, 0 ≤ R j ∧ R j ≤ 255) (n0 : Nat) (hb : qfRowB n0) : @EntOK (qfRowV R hR n0) Try.prog qfRows275 := by
  letI : Env := qfRowV R hR n0
  have rb1048614 := hR 1048614; exact entOrV (k := .u32) (a := 0) (b := (R 1048614)) (c := (R 1048614)) rfl rfl rfl (by have h := join_u32 0 (R 1048614) 8 256 (by decide) (by omega) (by omega) (by omega) (by omega); simpa using h)
def qfRows276 : Ent := .bin .shl (.chan (some 143)) (.int .u64 8) (.chan (some 144))
theorem qfRows276_ok (R : Nat → Int) (hR : ∀ j, 0 ≤ R j ∧ R j ≤ 255) (n0 : Nat) (hb : qfRowB n0) : @EntOK (qfRowV R hR n0) Try.prog qfRows276 := by
  letI : Env := qfRowV R hR n0
  have rb1048614 := hR 1048614; exact entShlV (k := .u32) (l := .u64) (a := (R 1048614)) (c := ((R 1048614) * 256)) (s := 8) rfl rfl rfl (by decide) (by show IntKind.u32.wrap ((R 1048614) * 2 ^ 8) = ((R 1048614) * 256); rw [show ((2 : Int) ^ 8) = 256 from by decide, IntWalk.u32_in _ (by omega)])
def qfRows277 : Ent := .conv .u32 (.chan (some 1048615)) (.chan (some 145))
theorem qfRows277_ok (R : Nat → Int) (hR : ∀ j, 0 ≤ R j ∧ R j ≤ 255) (n0 : Nat) (hb : qfRowB n0) : @EntOK (qfRowV R hR n0) Try.prog qfRows277 := by
  letI : Env := qfRowV R hR n0
  have rb1048615 := hR 1048615; exact entConvV (k := .u32) (l := .u8) (a := (R 1048615)) (c := (R 1048615)) rfl rfl (by rw [IntWalk.u32_in _ (by omega)])
def qfRows278 : Ent := .bin .or (.chan (some 144)) (.chan (some 145)) (.chan (some 146))
theorem qfRows278_ok (R : Nat → Int) (hR : ∀ j, 0 ≤ R j ∧ R j ≤ 255) (n0 : Nat) (hb : qfRowB n0) : @EntOK (qfRowV R hR n0) Try.prog qfRows278 := by
  letI : Env := qfRowV R hR n0
  have rb1048614 := hR 1048614; have rb1048615 := hR 1048615; exact entOrV (k := .u32) (a := ((R 1048614) * 256)) (b := (R 1048615)) (c := (((R 1048614) * 256) + (R 1048615))) rfl rfl rfl (by exact join_u32 (R 1048614) (R 1048615) 8 256 (by decide) (by omega) (by omega) (by omega) (by omega))
def qfRows279 : Ent := .conv .i64 (.chan (some 146)) (.chan (some 147))
theorem qfRows279_ok (R : Nat → Int) (hR : ∀ j, 0 ≤ R j ∧ R j ≤ 255) (n0 : Nat) (hb : qfRowB n0) : @EntOK (qfRowV R hR n0) Try.prog qfRows279 := by
  letI : Env := qfRowV R hR n0
  have rb1048614 := hR 1048614; have rb1048615 := hR 1048615; exact entConvV (k := .i64) (l := .u32) (a := (((R 1048614) * 256) + (R 1048615))) (c := (((R 1048614) * 256) + (R 1048615))) rfl rfl (by rw [IntWalk.i64_in _ (by omega)])
def qfRows280 : Ent := .bin .geq (.chan (some 0)) (.int .i64 40) (.bool true)
theorem qfRows280_ok (R : Nat → Int) (hR : ∀ j, 0 ≤ R j ∧ R j ≤ 255) (n0 : Nat) (hb : qfRowB n0) (hc : (n0 : Int) ≥ 40) : @EntOK (qfRowV R hR n0) Try.prog qfRows280 := by
  letI : Env := qfRowV R hR n0
  exact entCmp (k := .i64) (a := (n0 : Int)) (b := 40) rfl rfl (by show some (decide (((n0 : Int) : Int) ≥ 40)) = some true; rw [decide_eq_true (by omega)])
def qfRows281 : Ent := .conv .i64 (.chan (some 1048612)) (.chan (some 148))
theorem qfRows281_ok (R : Nat → Int) (hR : ∀ j, 0 ≤ R j ∧ R j ≤ 255) (n0 : Nat) (hb : qfRowB n0) : @EntOK (qfRowV R hR n0) Try.prog qfRows281 := by
  letI : Env := qfRowV R hR n0
  have rb1048612 := hR 1048612; exact entConvV (k := .i64) (l := .u8) (a := (R 1048612)) (c := (R 1048612)) rfl rfl (by rw [IntWalk.i64_in _ (by omega)])
def qfRows282 : Ent := .bin .shl (.chan (some 148)) (.int .u64 8) (.chan (some 149))
theorem qfRows282_ok (R : Nat → Int) (hR : ∀ j, 0 ≤ R j ∧ R j ≤ 255) (n0 : Nat) (hb : qfRowB n0) : @EntOK (qfRowV R hR n0) Try.prog qfRows282 := by
  letI : Env := qfRowV R hR n0
  have rb1048612 := hR 1048612; exact entShlV (k := .i64) (l := .u64) (a := (R 1048612)) (c := ((R 1048612) * 256)) (s := 8) rfl rfl rfl (by decide) (by show IntKind.i64.wrap ((R 1048612) * 2 ^ 8) = ((R 1048612) * 256); rw [show ((2 : Int) ^ 8) = 256 from by decide, IntWalk.i64_in _ (by omega)])
def qfRows283 : Ent := .conv .i64 (.chan (some 1048613)) (.chan (some 150))
theorem qfRows283_ok (R : Nat → Int) (hR : ∀ j, 0 ≤ R j ∧ R j ≤ 255) (n0 : Nat) (hb : qfRowB n0) : @EntOK (qfRowV R hR n0) Try.prog qfRows283 := by
  letI : Env := qfRowV R hR n0
  have rb1048613 := hR 1048613; exact entConvV (k := .i64) (l := .u8) (a := (R 1048613)) (c := (R 1048613)) rfl rfl (by rw [IntWalk.i64_in _ (by omega)])
def qfRows284 : Ent := .bin .or (.chan (some 149)) (.chan (some 150)) (.chan (some 141))
theorem qfRows284_ok (R : Nat → Int) (hR : ∀ j, 0 ≤ R j ∧ R j ≤ 255) (n0 : Nat) (hb : qfRowB n0) : @EntOK (qfRowV R hR n0) Try.prog qfRows284 := by
  letI : Env := qfRowV R hR n0
  have rb1048612 := hR 1048612; have rb1048613 := hR 1048613; exact entOrV (k := .i64) (a := ((R 1048612) * 256)) (b := (R 1048613)) (c := (((R 1048612) * 256) + (R 1048613))) rfl rfl rfl (by exact join_i64 (R 1048612) (R 1048613) 8 256 (by decide) (by omega) (by omega) (by omega) (by omega))
def qfRows285 : Ent := .conv .i64 (.chan (some 1048614)) (.chan (some 151))
theorem qfRows285_ok (R : Nat → Int) (hR : ∀ j, 0 ≤ R j ∧ R j ≤ 255) (n0 : Nat) (hb : qfRowB n0) : @EntOK (qfRowV R hR n0) Try.prog qfRows285 := by
  letI : Env := qfRowV R hR n0
  have rb1048614 := hR 1048614; exact entConvV (k := .i64) (l := .u8) (a := (R 1048614)) (c := (R 1048614)) rfl rfl (by rw [IntWalk.i64_in _ (by omega)])
def qfRows286 : Ent := .bin .shl (.chan (some 151)) (.int .u64 8) (.chan (some 152))
theorem qfRows286_ok (R : Nat → Int) (hR : ∀ j, 0 ≤ R j ∧ R j ≤ 255) (n0 : Nat) (hb : qfRowB n0) : @EntOK (qfRowV R hR n0) Try.prog qfRows286 := by
  letI : Env := qfRowV R hR n0
  have rb1048614 := hR 1048614; exact entShlV (k := .i64) (l := .u64) (a := (R 1048614)) (c := ((R 1048614) * 256)) (s := 8) rfl rfl rfl (by decide) (by show IntKind.i64.wrap ((R 1048614) * 2 ^ 8) = ((R 1048614) * 256); rw [show ((2 : Int) ^ 8) = 256 from by decide, IntWalk.i64_in _ (by omega)])
def qfRows287 : Ent := .conv .i64 (.chan (some 1048615)) (.chan (some 153))
theorem qfRows287_ok (R : Nat → Int) (hR : ∀ j, 0 ≤ R j ∧ R j ≤ 255) (n0 : Nat) (hb : qfRowB n0) : @EntOK (qfRowV R hR n0) Try.prog qfRows287 := by
  letI : Env := qfRowV R hR n0
  have rb1048615 := hR 1048615; exact entConvV (k := .i64) (l := .u8) (a := (R 1048615)) (c := (R 1048615)) rfl rfl (by rw [IntWalk.i64_in _ (by omega)])
def qfRows288 : Ent := .bin .or (.chan (some 152)) (.chan (some 153)) (.chan (some 147))
theorem qfRows288_ok (R : Nat → Int) (hR : ∀ j, 0 ≤ R j ∧ R j ≤ 255) (n0 : Nat) (hb : qfRowB n0) : @EntOK (qfRowV R hR n0) Try.prog qfRows288 := by
  letI : Env := qfRowV R hR n0
  have rb1048614 := hR 1048614; have rb1048615 := hR 1048615; exact entOrV (k := .i64) (a := ((R 1048614) * 256)) (b := (R 1048615)) (c := (((R 1048614) * 256) + (R 1048615))) rfl rfl rfl (by exact join_i64 (R 1048614) (R 1048615) 8 256 (by decide) (by omega) (by omega) (by omega) (by omega))
def qfRows289 : Ent := .eqs false 50 [.chan (some 17), .chan (some 34), .chan (some 141), .chan (some 45), .chan (some 147)] [.chan (some 17), .chan (some 54), .chan (some 141), .chan (some 60), .chan (some 147)] true
theorem qfRows289_ok (R : Nat → Int) (hR : ∀ j, 0 ≤ R j ∧ R j ≤ 255) (n0 : Nat) (hb : qfRowB n0) : @EntOK (qfRowV R hR n0) Try.prog qfRows289 := by
  letI : Env := qfRowV R hR n0
  have rb1048588 := hR 1048588; have rb1048589 := hR 1048589; have rb1048590 := hR 1048590; have rb1048591 := hR 1048591; have rb1048592 := hR 1048592; have rb1048593 := hR 1048593; have rb1048594 := hR 1048594; have rb1048595 := hR 1048595; exact ⟨by intro v hv; simp only [List.mem_cons, List.not_mem_nil, or_false] at hv; rcases hv with rfl | rfl | rfl | rfl | rfl <;> first | exact .inl ⟨_, _, rfl⟩ | exact .inr ⟨_, rfl⟩, by intro v hv; simp only [List.mem_cons, List.not_mem_nil, or_false] at hv; rcases hv with rfl | rfl | rfl | rfl | rfl <;> first | exact .inl ⟨_, _, rfl⟩ | exact .inr ⟨_, rfl⟩, by intro a1 a2 w; have e0 : (((((((R 1048588) * 256) + (R 1048589)) * 256) + (R 1048590)) * 256) + (R 1048591)) = (((((R 1048588) * 16777216) + ((R 1048589) * 65536)) + ((R 1048590) * 256)) + (R 1048591)) := (by omega); have e1 : (((((((R 1048592) * 256) + (R 1048593)) * 256) + (R 1048594)) * 256) + (R 1048595)) = (((((R 1048592) * 16777216) + ((R 1048593) * 65536)) + ((R 1048594) * 256)) + (R 1048595)) := (by omega); exact eqFlow _ _ _ _ _ _ _ _ _ _ (by omega) (by omega) (by omega) (by omega) (by omega) a1 a2 w⟩
def qfRows290 : Ent := .bin .and (.chan (some 3)) (.int .i64 15) (.int .i64 10)
theorem qfRows290_ok (R : Nat → Int) (hR : ∀ j, 0 ≤ R j ∧ R j ≤ 255) (n0 : Nat) (hb : qfRowB n0) (hc : ((R 1048576) % 16) = 10) : @EntOK (qfRowV R hR n0) Try.prog qfRows290 := by
  letI : Env := qfRowV R hR n0
  have rb1048576 := hR 1048576; exact entAndI (k := .i64) (a := (R 1048576)) (b := 15) (c := 10) rfl rfl (by rw [show band .i64 (R 1048576) 15 = ((R 1048576) % 16) from (by exact mask_i64 (R 1048576) 4 15 16 (by decide) (by decide) (by decide))]; omega)
def qfRows291 : Ent := .bin .gtr (.int .i64 20) (.chan (some 35)) (.bool true)
theorem qfRows291_ok (R : Nat → Int) (hR : ∀ j, 0 ≤ R j ∧ R j ≤ 255) (n0 : Nat) (hb : qfRowB n0) (hc : 20 > ((n0 : Int) - 20)) : @EntOK (qfRowV R hR n0) Try.prog qfRows291 := by
  letI : Env := qfRowV R hR n0
  exact entCmp (k := .i64) (a := 20) (b := ((n0 : Int) - 20)) rfl rfl (by show some (decide ((20 : Int) > ((n0 : Int) - 20))) = some true; rw [decide_eq_true (by omega)])
def qfRows292 : Ent := .bin .rem (.chan (some 1048576)) (.int .u8 16) (.int .u8 10)
theorem qfRows292_ok (R : Nat → Int) (hR : ∀ j, 0 ≤ R j ∧ R j ≤ 255) (n0 : Nat) (hb : qfRowB n0) (hc : ((R 1048576) % 16) = 10) : @EntOK (qfRowV R hR n0) Try.prog qfRows292 := by
  letI : Env := qfRowV R hR n0
  have rb1048576 := hR 1048576; exact entRemI (k := .u8) (a := (R 1048576)) (b := 16) (c := 10) rfl rfl (by omega) (by rw [Int.tmod_eq_emod_of_nonneg (by omega)]; omega)
def qfRows293 : Ent := .bin .gtr (.int .i64 40) (.chan (some 0)) (.bool true)
theorem qfRows293_ok (R : Nat → Int) (hR : ∀ j, 0 ≤ R j ∧ R j ≤ 255) (n0 : Nat) (hb : qfRowB n0) (hc : 40 > (n0 : Int)) : @EntOK (qfRowV R hR n0) Try.prog qfRows293 := by
  letI : Env := qfRowV R hR n0
  exact entCmp (k := .i64) (a := 40) (b := (n0 : Int)) rfl rfl (by show some (decide ((40 : Int) > (n0 : Int))) = some true; rw [decide_eq_true (by omega)])
def qfRows294 : Ent := .bin .gtr (.int .i64 20) (.chan (some 35)) (.bool false)
theorem qfRows294_ok (R : Nat → Int) (hR : ∀ j, 0 ≤ R j ∧ R j ≤ 255) (n0 : Nat) (hb : qfRowB n0) (hc : ¬ (20 > ((n0 : Int) - 20))) : @EntOK (qfRowV R hR n0) Try.prog qfRows294 := by
  letI : Env := qfRowV R hR n0
  exact entCmp (k := .i64) (a := 20) (b := ((n0 : Int) - 20)) rfl rfl (by show some (decide ((20 : Int) > ((n0 : Int) - 20))) = some false; rw [decide_eq_false (by omega)])
def qfRows295 : Ent := .bin .gtr (.int .i64 0) (.chan (some 142)) (.bool false)
theorem qfRows295_ok (R : Nat → Int) (hR : ∀ j, 0 ≤ R j ∧ R j ≤ 255) (n0 : Nat) (hb : qfRowB n0) (hc : ¬ (0 > ((n0 : Int) - 40))) : @EntOK (qfRowV R hR n0) Try.prog qfRows295 := by
  letI : Env := qfRowV R hR n0
  exact entCmp (k := .i64) (a := 0) (b := ((n0 : Int) - 40)) rfl rfl (by show some (decide ((0 : Int) > ((n0 : Int) - 40))) = some false; rw [decide_eq_false (by omega)])
def qfRows296 : Ent := .bin .geq (.chan (some 142)) (.int .i64 4) (.bool false)
theorem qfRows296_ok (R : Nat → Int) (hR : ∀ j, 0 ≤ R j ∧ R j ≤ 255) (n0 : Nat) (hb : qfRowB n0) (hc : ¬ (((n0 : Int) - 40) ≥ 4)) : @EntOK (qfRowV R hR n0) Try.prog qfRows296 := by
  letI : Env := qfRowV R hR n0
  exact entCmp (k := .i64) (a := ((n0 : Int) - 40)) (b := 4) rfl rfl (by show some (decide ((((n0 : Int) - 40) : Int) ≥ 4)) = some false; rw [decide_eq_false (by omega)])
def qfRows297 : Ent := .bin .gtr (.int .i64 40) (.chan (some 0)) (.bool false)
theorem qfRows297_ok (R : Nat → Int) (hR : ∀ j, 0 ≤ R j ∧ R j ≤ 255) (n0 : Nat) (hb : qfRowB n0) (hc : ¬ (40 > (n0 : Int))) : @EntOK (qfRowV R hR n0) Try.prog qfRows297 := by
  letI : Env := qfRowV R hR n0
  exact entCmp (k := .i64) (a := 40) (b := (n0 : Int)) rfl rfl (by show some (decide ((40 : Int) > (n0 : Int))) = some false; rw [decide_eq_false (by omega)])
def qfRows298 : Ent := .bin .geq (.chan (some 0)) (.int .i64 44) (.bool false)
theorem qfRows298_ok (R : Nat → Int) (hR : ∀ j, 0 ≤ R j ∧ R j ≤ 255) (n0 : Nat) (hb : qfRowB n0) (hc : ¬ ((n0 : Int) ≥ 44)) : @EntOK (qfRowV R hR n0) Try.prog qfRows298 := by
  letI : Env := qfRowV R hR n0
  exact entCmp (k := .i64) (a := (n0 : Int)) (b := 44) rfl rfl (by show some (decide (((n0 : Int) : Int) ≥ 44)) = some false; rw [decide_eq_false (by omega)])
def qfRows299 : Ent := .bin .geq (.chan (some 142)) (.int .i64 4) (.bool true)
theorem qfRows299_ok (R : Nat → Int) (hR : ∀ j, 0 ≤ R j ∧ R j ≤ 255) (n0 : Nat) (hb : qfRowB n0) (hc : ((n0 : Int) - 40) ≥ 4) : @EntOK (qfRowV R hR n0) Try.prog qfRows299 := by
  letI : Env := qfRowV R hR n0
  exact entCmp (k := .i64) (a := ((n0 : Int) - 40)) (b := 4) rfl rfl (by show some (decide ((((n0 : Int) - 40) : Int) ≥ 4)) = some true; rw [decide_eq_true (by omega)])
def qfRows300 : Ent := .bin .gtr (.int .i64 2) (.chan (some 142)) (.bool false)
theorem qfRows300_ok (R : Nat → Int) (hR : ∀ j, 0 ≤ R j ∧ R j ≤ 255) (n0 : Nat) (hb : qfRowB n0) (hc : ¬ ((2 : Int) > ((n0 : Int) - 40))) : @EntOK (qfRowV R hR n0) Try.prog qfRows300 := by
  letI : Env := qfRowV R hR n0
  exact entCmp (k := .i64) (a := 2) (b := ((n0 : Int) - 40)) rfl rfl (by show some (decide ((2 : Int) > ((n0 : Int) - 40))) = some false; rw [decide_eq_false (by omega)])
def qfRows301 : Ent := .slen 0 85 (.chan (some 154))
theorem qfRows301_ok (R : Nat → Int) (hR : ∀ j, 0 ≤ R j ∧ R j ≤ 255) (n0 : Nat) (hb : qfRowB n0) (hc : 42 ≤ n0) : @EntOK (qfRowV R hR n0) Try.prog qfRows301 := by
  letI : Env := qfRowV R hR n0
  exact entSlen (n := n0) (j := 154) (c := ((n0 : Int) - 42)) rfl rfl (by simp; try omega) (by first | exact .inl rfl | (right; omega))
def qfRows302 : Ent := .conv .u32 (.chan (some 1048616)) (.chan (some 155))
theorem qfRows302_ok (R : Nat → Int) (hR : ∀ j, 0 ≤ R j ∧ R j ≤ 255) (n0 : Nat) (hb : qfRowB n0) : @EntOK (qfRowV R hR n0) Try.prog qfRows302 := by
  letI : Env := qfRowV R hR n0
  have rb1048616 := hR 1048616; exact entConvV (k := .u32) (l := .u8) (a := (R 1048616)) (c := (R 1048616)) rfl rfl (by rw [IntWalk.u32_in _ (by omega)])
def qfRows303 : Ent := .bin .or (.int .u32 0) (.chan (some 155)) (.chan (some 155))
theorem qfRows303_ok (R : Nat → Int) (hR : ∀ j, 0 ≤ R j ∧ R j ≤ 255) (n0 : Nat) (hb : qfRowB n0) : @EntOK (qfRowV R hR n0) Try.prog qfRows303 := by
  letI : Env := qfRowV R hR n0
  have rb1048616 := hR 1048616; exact entOrV (k := .u32) (a := 0) (b := (R 1048616)) (c := (R 1048616)) rfl rfl rfl (by have h := join_u32 0 (R 1048616) 8 256 (by decide) (by omega) (by omega) (by omega) (by omega); simpa using h)
def qfRows304 : Ent := .bin .shl (.chan (some 155)) (.int .u64 8) (.chan (some 156))
theorem qfRows304_ok (R : Nat → Int) (hR : ∀ j, 0 ≤ R j ∧ R j ≤ 255) (n0 : Nat) (hb : qfRowB n0) : @EntOK (qfRowV R hR n0) Try.prog qfRows304 := by
  letI : Env := qfRowV R hR n0
  have rb1048616 := hR 1048616; exact entShlV (k := .u32) (l := .u64) (a := (R 1048616)) (c := ((R 1048616) * 256)) (s := 8) rfl rfl rfl (by decide) (by show IntKind.u32.wrap ((R 1048616) * 2 ^ 8) = ((R 1048616) * 256); rw [show ((2 : Int) ^ 8) = 256 from by decide, IntWalk.u32_in _ (by omega)])
def qfRows305 : Ent := .conv .u32 (.chan (some 1048617)) (.chan (some 157))
theorem qfRows305_ok (R : Nat → Int) (hR : ∀ j, 0 ≤ R j ∧ R j ≤ 255) (n0 : Nat) (hb : qfRowB n0) : @EntOK (qfRowV R hR n0) Try.prog qfRows305 := by
  letI : Env := qfRowV R hR n0
  have rb1048617 := hR 1048617; exact entConvV (k := .u32) (l := .u8) (a := (R 1048617)) (c := (R 1048617)) rfl rfl (by rw [IntWalk.u32_in _ (by omega)])
def qfRows306 : Ent := .bin .or (.chan (some 156)) (.chan (some 157)) (.chan (some 158))
theorem qfRows306_ok (R : Nat → Int) (hR : ∀ j, 0 ≤ R j ∧ R j ≤ 255) (n0 : Nat) (hb : qfRowB n0) : @EntOK (qfRowV R hR n0) Try.prog qfRows306 := by
  letI : Env := qfRowV R hR n0
  have rb1048616 := hR 1048616; have rb1048617 := hR 1048617; exact entOrV (k := .u32) (a := ((R 1048616) * 256)) (b := (R 1048617)) (c := (((R 1048616) * 256) + (R 1048617))) rfl rfl rfl (by exact join_u32 (R 1048616) (R 1048617) 8 256 (by decide) (by omega) (by omega) (by omega) (by omega))
def qfRows307 : Ent := .conv .i64 (.chan (some 158)) (.chan (some 159))
theorem qfRows307_ok (R : Nat → Int) (hR : ∀ j, 0 ≤ R j ∧ R j ≤ 255) (n0 : Nat) (hb : qfRowB n0) : @EntOK (qfRowV R hR n0) Try.prog qfRows307 := by
  letI : Env := qfRowV R hR n0
  have rb1048616 := hR 1048616; have rb1048617 := hR 1048617; exact entConvV (k := .i64) (l := .u32) (a := (((R 1048616) * 256) + (R 1048617))) (c := (((R 1048616) * 256) + (R 1048617))) rfl rfl (by rw [IntWalk.i64_in _ (by omega)])
def qfRows308 : Ent := .bin .gtr (.int .i64 2) (.chan (some 154)) (.bool false)
theorem qfRows308_ok (R : Nat → Int) (hR : ∀ j, 0 ≤ R j ∧ R j ≤ 255) (n0 : Nat) (hb : qfRowB n0) (hc : ¬ (2 > ((n0 : Int) - 42))) : @EntOK (qfRowV R hR n0) Try.prog qfRows308 := by
  letI : Env := qfRowV R hR n0
  exact entCmp (k := .i64) (a := 2) (b := ((n0 : Int) - 42)) rfl rfl (by show some (decide ((2 : Int) > ((n0 : Int) - 42))) = some false; rw [decide_eq_false (by omega)])
def qfRows309 : Ent := .slen 0 89 (.chan (some 160))
theorem qfRows309_ok (R : Nat → Int) (hR : ∀ j, 0 ≤ R j ∧ R j ≤ 255) (n0 : Nat) (hb : qfRowB n0) (hc : 44 ≤ n0) : @EntOK (qfRowV R hR n0) Try.prog qfRows309 := by
  letI : Env := qfRowV R hR n0
  exact entSlen (n := n0) (j := 160) (c := ((n0 : Int) - 44)) rfl rfl (by simp; try omega) (by first | exact .inl rfl | (right; omega))
def qfRows310 : Ent := .conv .u32 (.chan (some 1048618)) (.chan (some 161))
theorem qfRows310_ok (R : Nat → Int) (hR : ∀ j, 0 ≤ R j ∧ R j ≤ 255) (n0 : Nat) (hb : qfRowB n0) : @EntOK (qfRowV R hR n0) Try.prog qfRows310 := by
  letI : Env := qfRowV R hR n0
  have rb1048618 := hR 1048618; exact entConvV (k := .u32) (l := .u8) (a := (R 1048618)) (c := (R 1048618)) rfl rfl (by rw [IntWalk.u32_in _ (by omega)])
def qfRows311 : Ent := .bin .or (.int .u32 0) (.chan (some 161)) (.chan (some 161))
theorem qfRows311_ok (R : Nat → Int) (hR : ∀ j, 0 ≤ R j ∧ R j ≤ 255) (n0 : Nat) (hb : qfRowB n0) : @EntOK (qfRowV R hR n0) Try.prog qfRows311 := by
  letI : Env := qfRowV R hR n0
  have rb1048618 := hR 1048618; exact entOrV (k := .u32) (a := 0) (b := (R 1048618)) (c := (R 1048618)) rfl rfl rfl (by have h := join_u32 0 (R 1048618) 8 256 (by decide) (by omega) (by omega) (by omega) (by omega); simpa using h)
def qfRows312 : Ent := .bin .shl (.chan (some 161)) (.int .u64 8) (.chan (some 162))
theorem qfRows312_ok (R : Nat → Int) (hR : ∀ j, 0 ≤ R j ∧ R j ≤ 255) (n0 : Nat) (hb : qfRowB n0) : @EntOK (qfRowV R hR n0) Try.prog qfRows312 := by
  letI : Env := qfRowV R hR n0
  have rb1048618 := hR 1048618; exact entShlV (k := .u32) (l := .u64) (a := (R 1048618)) (c := ((R 1048618) * 256)) (s := 8) rfl rfl rfl (by decide) (by show IntKind.u32.wrap ((R 1048618) * 2 ^ 8) = ((R 1048618) * 256); rw [show ((2 : Int) ^ 8) = 256 from by decide, IntWalk.u32_in _ (by omega)])
def qfRows313 : Ent := .conv .u32 (.chan (some 1048619)) (.chan (some 163))
theorem qfRows313_ok (R : Nat → Int) (hR : ∀ j, 0 ≤ R j ∧ R j ≤ 255) (n0 : Nat) (hb : qfRowB n0) : @EntOK (qfRowV R hR n0) Try.prog qfRows313 := by
  letI : Env := qfRowV R hR n0
  have rb1048619 := hR 1048619; exact entConvV (k := .u32) (l := .u8) (a := (R 1048619)) (c := (R 1048619)) rfl rfl (by rw [IntWalk.u32_in _ (by omega)])
def qfRows314 : Ent := .bin .or (.chan (some 162)) (.chan (some 163)) (.chan (some 164))
theorem qfRows314_ok (R : Nat → Int) (hR : ∀ j, 0 ≤ R j ∧ R j ≤ 255) (n0 : Nat) (hb : qfRowB n0) : @EntOK (qfRowV R hR n0) Try.prog qfRows314 := by
  letI : Env := qfRowV R hR n0
  have rb1048618 := hR 1048618; have rb1048619 := hR 1048619; exact entOrV (k := .u32) (a := ((R 1048618) * 256)) (b := (R 1048619)) (c := (((R 1048618) * 256) + (R 1048619))) rfl rfl rfl (by exact join_u32 (R 1048618) (R 1048619) 8 256 (by decide) (by omega) (by omega) (by omega) (by omega))
def qfRows315 : Ent := .conv .i64 (.chan (some 164)) (.chan (some 165))
theorem qfRows315_ok (R : Nat → Int) (hR : ∀ j, 0 ≤ R j ∧ R j ≤ 255) (n0 : Nat) (hb : qfRowB n0) : @EntOK (qfRowV R hR n0) Try.prog qfRows315 := by
  letI : Env := qfRowV R hR n0
  have rb1048618 := hR 1048618; have rb1048619 := hR 1048619; exact entConvV (k := .i64) (l := .u32) (a := (((R 1048618) * 256) + (R 1048619))) (c := (((R 1048618) * 256) + (R 1048619))) rfl rfl (by rw [IntWalk.i64_in _ (by omega)])
def qfRows316 : Ent := .bin .geq (.chan (some 0)) (.int .i64 44) (.bool true)
theorem qfRows316_ok (R : Nat → Int) (hR : ∀ j, 0 ≤ R j ∧ R j ≤ 255) (n0 : Nat) (hb : qfRowB n0) (hc : (n0 : Int) ≥ 44) : @EntOK (qfRowV R hR n0) Try.prog qfRows316 := by
  letI : Env := qfRowV R hR n0
  exact entCmp (k := .i64) (a := (n0 : Int)) (b := 44) rfl rfl (by show some (decide (((n0 : Int) : Int) ≥ 44)) = some true; rw [decide_eq_true (by omega)])
def qfRows317 : Ent := .conv .i64 (.chan (some 1048616)) (.chan (some 166))
theorem qfRows317_ok (R : Nat → Int) (hR : ∀ j, 0 ≤ R j ∧ R j ≤ 255) (n0 : Nat) (hb : qfRowB n0) : @EntOK (qfRowV R hR n0) Try.prog qfRows317 := by
  letI : Env := qfRowV R hR n0
  have rb1048616 := hR 1048616; exact entConvV (k := .i64) (l := .u8) (a := (R 1048616)) (c := (R 1048616)) rfl rfl (by rw [IntWalk.i64_in _ (by omega)])
def qfRows318 : Ent := .bin .shl (.chan (some 166)) (.int .u64 8) (.chan (some 167))
theorem qfRows318_ok (R : Nat → Int) (hR : ∀ j, 0 ≤ R j ∧ R j ≤ 255) (n0 : Nat) (hb : qfRowB n0) : @EntOK (qfRowV R hR n0) Try.prog qfRows318 := by
  letI : Env := qfRowV R hR n0
  have rb1048616 := hR 1048616; exact entShlV (k := .i64) (l := .u64) (a := (R 1048616)) (c := ((R 1048616) * 256)) (s := 8) rfl rfl rfl (by decide) (by show IntKind.i64.wrap ((R 1048616) * 2 ^ 8) = ((R 1048616) * 256); rw [show ((2 : Int) ^ 8) = 256 from by decide, IntWalk.i64_in _ (by omega)])
def qfRows319 : Ent := .conv .i64 (.chan (some 1048617)) (.chan (some 168))
theorem qfRows319_ok (R : Nat → Int) (hR : ∀ j, 0 ≤ R j ∧ R j ≤ 255) (n0 : Nat) (hb : qfRowB n0) : @EntOK (qfRowV R hR n0) Try.prog qfRows319 := by
  letI : Env := qfRowV R hR n0
  have rb1048617 := hR 1048617; exact entConvV (k := .i64) (l := .u8) (a := (R 1048617)) (c := (R 1048617)) rfl rfl (by rw [IntWalk.i64_in _ (by omega)])
def qfRows320 : Ent := .bin .or (.chan (some 167)) (.chan (some 168)) (.chan (some 159))
theorem qfRows320_ok (R : Nat → Int) (hR : ∀ j, 0 ≤ R j ∧ R j ≤ 255) (n0 : Nat) (hb : qfRowB n0) : @EntOK (qfRowV R hR n0) Try.prog qfRows320 := by
  letI : Env := qfRowV R hR n0
  have rb1048616 := hR 1048616; have rb1048617 := hR 1048617; exact entOrV (k := .i64) (a := ((R 1048616) * 256)) (b := (R 1048617)) (c := (((R 1048616) * 256) + (R 1048617))) rfl rfl rfl (by exact join_i64 (R 1048616) (R 1048617) 8 256 (by decide) (by omega) (by omega) (by omega) (by omega))
def qfRows321 : Ent := .conv .i64 (.chan (some 1048618)) (.chan (some 169))
theorem qfRows321_ok (R : Nat → Int) (hR : ∀ j, 0 ≤ R j ∧ R j ≤ 255) (n0 : Nat) (hb : qfRowB n0) : @EntOK (qfRowV R hR n0) Try.prog qfRows321 := by
  letI : Env := qfRowV R hR n0
  have rb1048618 := hR 1048618; exact entConvV (k := .i64) (l := .u8) (a := (R 1048618)) (c := (R 1048618)) rfl rfl (by rw [IntWalk.i64_in _ (by omega)])
def qfRows322 : Ent := .bin .shl (.chan (some 169)) (.int .u64 8) (.chan (some 170))
theorem qfRows322_ok (R : Nat → Int) (hR : ∀ j, 0 ≤ R j ∧ R j ≤ 255) (n0 : Nat) (hb : qfRowB n0) : @EntOK (qfRowV R hR n0) Try.prog qfRows322 := by
  letI : Env := qfRowV R hR n0
  have rb1048618 := hR 1048618; exact entShlV (k := .i64) (l := .u64) (a := (R 1048618)) (c := ((R 1048618) * 256)) (s := 8) rfl rfl rfl (by decide) (by show IntKind.i64.wrap ((R 1048618) * 2 ^ 8) = ((R 1048618) * 256); rw [show ((2 : Int) ^ 8) = 256 from by decide, IntWalk.i64_in _ (by omega)])
def qfRows323 : Ent := .conv .i64 (.chan (some 1048619)) (.chan (some 171))
theorem qfRows323_ok (R : Nat → Int) (hR : ∀ j, 0 ≤ R j ∧ R j ≤ 255) (n0 : Nat) (hb : qfRowB n0) : @EntOK (qfRowV R hR n0) Try.prog qfRows323 := by
  letI : Env := qfRowV R hR n0
  have rb1048619 := hR 1048619; exact entConvV (k := .i64) (l := .u8) (a := (R 1048619)) (c := (R 1048619)) rfl rfl (by rw [IntWalk.i64_in _ (by omega)])
def qfRows324 : Ent := .bin .or (.chan (some 170)) (.chan (some 171)) (.chan (some 165))
theorem qfRows324_ok (R : Nat → Int) (hR : ∀ j, 0 ≤ R j ∧ R j ≤ 255) (n0 : Nat) (hb : qfRowB n0) : @EntOK (qfRowV R hR n0) Try.prog qfRows324 := by
  letI : Env := qfRowV R hR n0
  have rb1048618 := hR 1048618; have rb1048619 := hR 1048619; exact entOrV (k := .i64) (a := ((R 1048618) * 256)) (b := (R 1048619)) (c := (((R 1048618) * 256) + (R 1048619))) rfl rfl rfl (by exact join_i64 (R 1048618) (R 1048619) 8 256 (by decide) (by omega) (by omega) (by omega) (by omega))
def qfRows325 : Ent := .eqs false 50 [.chan (some 17), .chan (some 34), .chan (some 159), .chan (some 45), .chan (some 165)] [.chan (some 17), .chan (some 54), .chan (some 159), .chan (some 60), .chan (some 165)] true
theorem qfRows325_ok (R : Nat → Int) (hR : ∀ j, 0 ≤ R j ∧ R j ≤ 255) (n0 : Nat) (hb : qfRowB n0) : @EntOK (qfRowV R hR n0) Try.prog qfRows325 := by
  letI : Env := qfRowV R hR n0
  have rb1048588 := hR 1048588; have rb1048589 := hR 1048589; have rb1048590 := hR 1048590; have rb1048591 := hR 1048591; have rb1048592 := hR 1048592; have rb1048593 := hR 1048593; have rb1048594 := hR 1048594; have rb1048595 := hR 1048595; exact ⟨by intro v hv; simp only [List.mem_cons, List.not_mem_nil, or_false] at hv; rcases hv with rfl | rfl | rfl | rfl | rfl <;> first | exact .inl ⟨_, _, rfl⟩ | exact .inr ⟨_, rfl⟩, by intro v hv; simp only [List.mem_cons, List.not_mem_nil, or_false] at hv; rcases hv with rfl | rfl | rfl | rfl | rfl <;> first | exact .inl ⟨_, _, rfl⟩ | exact .inr ⟨_, rfl⟩, by intro a1 a2 w; have e0 : (((((((R 1048588) * 256) + (R 1048589)) * 256) + (R 1048590)) * 256) + (R 1048591)) = (((((R 1048588) * 16777216) + ((R 1048589) * 65536)) + ((R 1048590) * 256)) + (R 1048591)) := (by omega); have e1 : (((((((R 1048592) * 256) + (R 1048593)) * 256) + (R 1048594)) * 256) + (R 1048595)) = (((((R 1048592) * 16777216) + ((R 1048593) * 65536)) + ((R 1048594) * 256)) + (R 1048595)) := (by omega); exact eqFlow _ _ _ _ _ _ _ _ _ _ (by omega) (by omega) (by omega) (by omega) (by omega) a1 a2 w⟩
def qfRows326 : Ent := .bin .and (.chan (some 3)) (.int .i64 15) (.int .i64 11)
theorem qfRows326_ok (R : Nat → Int) (hR : ∀ j, 0 ≤ R j ∧ R j ≤ 255) (n0 : Nat) (hb : qfRowB n0) (hc : ((R 1048576) % 16) = 11) : @EntOK (qfRowV R hR n0) Try.prog qfRows326 := by
  letI : Env := qfRowV R hR n0
  have rb1048576 := hR 1048576; exact entAndI (k := .i64) (a := (R 1048576)) (b := 15) (c := 11) rfl rfl (by rw [show band .i64 (R 1048576) 15 = ((R 1048576) % 16) from (by exact mask_i64 (R 1048576) 4 15 16 (by decide) (by decide) (by decide))]; omega)
def qfRows327 : Ent := .bin .gtr (.int .i64 24) (.chan (some 35)) (.bool true)
theorem qfRows327_ok (R : Nat → Int) (hR : ∀ j, 0 ≤ R j ∧ R j ≤ 255) (n0 : Nat) (hb : qfRowB n0) (hc : 24 > ((n0 : Int) - 20)) : @EntOK (qfRowV R hR n0) Try.prog qfRows327 := by
  letI : Env := qfRowV R hR n0
  exact entCmp (k := .i64) (a := 24) (b := ((n0 : Int) - 20)) rfl rfl (by show some (decide ((24 : Int) > ((n0 : Int) - 20))) = some true; rw [decide_eq_true (by omega)])
def qfRows328 : Ent := .bin .rem (.chan (some 1048576)) (.int .u8 16) (.int .u8 11)
theorem qfRows328_ok (R : Nat → Int) (hR : ∀ j, 0 ≤ R j ∧ R j ≤ 255) (n0 : Nat) (hb : qfRowB n0) (hc : ((R 1048576) % 16) = 11) : @EntOK (qfRowV R hR n0) Try.prog qfRows328 := by
  letI : Env := qfRowV R hR n0
  have rb1048576 := hR 1048576; exact entRemI (k := .u8) (a := (R 1048576)) (b := 16) (c := 11) rfl rfl (by omega) (by rw [Int.tmod_eq_emod_of_nonneg (by omega)]; omega)
def qfRows329 : Ent := .bin .gtr (.int .i64 44) (.chan (some 0)) (.bool true)
theorem qfRows329_ok (R : Nat → Int) (hR : ∀ j, 0 ≤ R j ∧ R j ≤ 255) (n0 : Nat) (hb : qfRowB n0) (hc : 44 > (n0 : Int)) : @EntOK (qfRowV R hR n0) Try.prog qfRows329 := by
  letI : Env := qfRowV R hR n0
  exact entCmp (k := .i64) (a := 44) (b := (n0 : Int)) rfl rfl (by show some (decide ((44 : Int) > (n0 : Int))) = some true; rw [decide_eq_true (by omega)])
def qfRows330 : Ent := .bin .gtr (.int .i64 24) (.chan (some 35)) (.bool false)
theorem qfRows330_ok (R : Nat → Int) (hR : ∀ j, 0 ≤ R j ∧ R j ≤ 255) (n0 : Nat) (hb : qfRowB n0) (hc : ¬ (24 > ((n0 : Int) - 20))) : @EntOK (qfRowV R hR n0) Try.prog qfRows330 := by
  letI : Env := qfRowV R hR n0
  exact entCmp (k := .i64) (a := 24) (b := ((n0 : Int) - 20)) rfl rfl (by show some (decide ((24 : Int) > ((n0 : Int) - 20))) = some false; rw [decide_eq_false (by omega)])
def qfRows331 : Ent := .bin .gtr (.int .i64 0) (.chan (some 160)) (.bool false)
theorem qfRows331_ok (R : Nat → Int) (hR : ∀ j, 0 ≤ R j ∧ R j ≤ 255) (n0 : Nat) (hb : qfRowB n0) (hc : ¬ (0 > ((n0 : Int) - 44))) : @EntOK (qfRowV R hR n0) Try.prog qfRows331 := by
  letI : Env := qfRowV R hR n0
  exact entCmp (k := .i64) (a := 0) (b := ((n0 : Int) - 44)) rfl rfl (by show some (decide ((0 : Int) > ((n0 : Int) - 44))) = some false; rw [decide_eq_false (by omega)])
def qfRows332 : Ent := .bin .geq (.chan (some 160)) (.int .i64 4) (.bool false)
theorem qfRows332_ok (R : Nat → Int) (hR : ∀ j, 0 ≤ R j ∧ R j ≤ 255) (n0 : Nat) (hb : qfRowB n0) (hc : ¬ (((n0 : Int) - 44) ≥ 4)) : @EntOK (qfRowV R hR n0) Try.prog qfRows332 := by
  letI : Env := qfRowV R hR n0
  exact entCmp (k := .i64) (a := ((n0 : Int) - 44)) (b := 4) rfl rfl (by show some (decide ((((n0 : Int) - 44) : Int) ≥ 4)) = some false; rw [decide_eq_false (by omega)])
def qfRows333 : Ent := .bin .gtr (.int .i64 44) (.chan (some 0)) (.bool false)
theorem qfRows333_ok (R : Nat → Int) (hR : ∀ j, 0 ≤ R j ∧ R j ≤ 255) (n0 : Nat) (hb : qfRowB n0) (hc : ¬ (44 > (n0 : Int))) : @EntOK (qfRowV R hR n0) Try.prog qfRows333 := by
  letI : Env := qfRowV R hR n0
  exact entCmp (k := .i64) (a := 44) (b := (n0 : Int)) rfl rfl (by show some (decide ((44 : Int) > (n0 : Int))) = some false; rw [decide_eq_false (by omega)])
def qfRows334 : Ent := .bin .geq (.chan (some 0)) (.int .i64 48) (.bool false)
theorem qfRows334_ok (R : Nat → Int) (hR : ∀ j, 0 ≤ R j ∧ R j ≤ 255) (n0 : Nat) (hb : qfRowB n0) (hc : ¬ ((n0 : Int) ≥ 48)) : @EntOK (qfRowV R hR n0) Try.prog qfRows334 := by
  letI : Env := qfRowV R hR n0
  exact entCmp (k := .i64) (a := (n0 : Int)) (b := 48) rfl rfl (by show some (decide (((n0 : Int) : Int) ≥ 48)) = some false; rw [decide_eq_false (by omega)])
def qfRows335 : Ent := .bin .geq (.chan (some 160)) (.int .i64 4) (.bool true)
theorem qfRows335_ok (R : Nat → Int) (hR : ∀ j, 0 ≤ R j ∧ R j ≤ 255) (n0 : Nat) (hb : qfRowB n0) (hc : ((n0 : Int) - 44) ≥ 4) : @EntOK (qfRowV R hR n0) Try.prog qfRows335 := by
  letI : Env := qfRowV R hR n0
  exact entCmp (k := .i64) (a := ((n0 : Int) - 44)) (b := 4) rfl rfl (by show some (decide ((((n0 : Int) - 44) : Int) ≥ 4)) = some true; rw [decide_eq_true (by omega)])
def qfRows336 : Ent := .bin .gtr (.int .i64 2) (.chan (some 160)) (.bool false)
theorem qfRows336_ok (R : Nat → Int) (hR : ∀ j, 0 ≤ R j ∧ R j ≤ 255) (n0 : Nat) (hb : qfRowB n0) (hc : ¬ ((2 : Int) > ((n0 : Int) - 44))) : @EntOK (qfRowV R hR n0) Try.prog qfRows336 := by
  letI : Env := qfRowV R hR n0
  exact entCmp (k := .i64) (a := 2) (b := ((n0 : Int) - 44)) rfl rfl (by show some (decide ((2 : Int) > ((n0 : Int) - 44))) = some false; rw [decide_eq_false (by omega)])
def qfRows337 : Ent := .slen 0 93 (.chan (some 172))
theorem qfRows337_ok (R : Nat → Int) (hR : ∀ j, 0 ≤ R j ∧ R j ≤ 255) (n0 : Nat) (hb : qfRowB n0) (hc : 46 ≤ n0) : @EntOK (qfRowV R hR n0) Try.prog qfRows337 := by
  letI : Env := qfRowV R hR n0
  exact entSlen (n := n0) (j := 172) (c := ((n0 : Int) - 46)) rfl rfl (by simp; try omega) (by first | exact .inl rfl | (right; omega))
def qfRows338 : Ent := .conv .u32 (.chan (some 1048620)) (.chan (some 173))
theorem qfRows338_ok (R : Nat → Int) (hR : ∀ j, 0 ≤ R j ∧ R j ≤ 255) (n0 : Nat) (hb : qfRowB n0) : @EntOK (qfRowV R hR n0) Try.prog qfRows338 := by
  letI : Env := qfRowV R hR n0
  have rb1048620 := hR 1048620; exact entConvV (k := .u32) (l := .u8) (a := (R 1048620)) (c := (R 1048620)) rfl rfl (by rw [IntWalk.u32_in _ (by omega)])
def qfRows339 : Ent := .bin .or (.int .u32 0) (.chan (some 173)) (.chan (some 173))
theorem qfRows339_ok (R : Nat → Int) (hR : ∀ j, 0 ≤ R j ∧ R j ≤ 255) (n0 : Nat) (hb : qfRowB n0) : @EntOK (qfRowV R hR n0) Try.prog qfRows339 := by
  letI : Env := qfRowV R hR n0
  have rb1048620 := hR 1048620; exact entOrV (k := .u32) (a := 0) (b := (R 1048620)) (c := (R 1048620)) rfl rfl rfl (by have h := join_u32 0 (R 1048620) 8 256 (by decide) (by omega) (by omega) (by omega) (by omega); simpa using h)
def qfRows340 : Ent := .bin .shl (.chan (some 173)) (.int .u64 8) (.chan (some 174))
theorem qfRows340_ok (R : Nat → Int) (hR : ∀ j, 0 ≤ R j ∧ R j ≤ 255) (n0 : Nat) (hb : qfRowB n0) : @EntOK (qfRowV R hR n0) Try.prog qfRows340 := by
  letI : Env := qfRowV R hR n0
  have rb1048620 := hR 1048620; exact entShlV (k := .u32) (l := .u64) (a := (R 1048620)) (c := ((R 1048620) * 256)) (s := 8) rfl rfl rfl (by decide) (by show IntKind.u32.wrap ((R 1048620) * 2 ^ 8) = ((R 1048620) * 256); rw [show ((2 : Int) ^ 8) = 256 from by decide, IntWalk.u32_in _ (by omega)])
def qfRows341 : Ent := .conv .u32 (.chan (some 1048621)) (.chan (some 175))
theorem qfRows341_ok (R : Nat → Int) (hR : ∀ j, 0 ≤ R j ∧ R j ≤ 255) (n0 : Nat) (hb : qfRowB n0) : @EntOK (qfRowV R hR n0) Try.prog qfRows341 := by
  letI : Env := qfRowV R hR n0
  have rb1048621 := hR 1048621; exact entConvV (k := .u32) (l := .u8) (a := (R 1048621)) (c := (R 1048621)) rfl rfl (by rw [IntWalk.u32_in _ (by omega)])
def qfRows342 : Ent := .bin .or (.chan (some 174)) (.chan (some 175)) (.chan (some 176))
theorem qfRows342_ok (R : Nat → Int) (hR : ∀ j, 0 ≤ R j ∧ R j ≤ 255) (n0 : Nat) (hb : qfRowB n0) : @EntOK (qfRowV R hR n0) Try.prog qfRows342 := by
  letI : Env := qfRowV R hR n0
  have rb1048620 := hR 1048620; have rb1048621 := hR 1048621; exact entOrV (k := .u32) (a := ((R 1048620) * 256)) (b := (R 1048621)) (c := (((R 1048620) * 256) + (R 1048621))) rfl rfl rfl (by exact join_u32 (R 1048620) (R 1048621) 8 256 (by decide) (by omega) (by omega) (by omega) (by omega))
def qfRows343 : Ent := .conv .i64 (.chan (some 176)) (.chan (some 177))
theorem qfRows343_ok (R : Nat → Int) (hR : ∀ j, 0 ≤ R j ∧ R j ≤ 255) (n0 : Nat) (hb : qfRowB n0) : @EntOK (qfRowV R hR n0) Try.prog qfRows343 := by
  letI : Env := qfRowV R hR n0
  have rb1048620 := hR 1048620; have rb1048621 := hR 1048621; exact entConvV (k := .i64) (l := .u32) (a := (((R 1048620) * 256) + (R 1048621))) (c := (((R 1048620) * 256) + (R 1048621))) rfl rfl (by rw [IntWalk.i64_in _ (by omega)])
def qfRows344 : Ent := .bin .gtr (.int .i64 2) (.chan (some 172)) (.bool false)
theorem qfRows344_ok (R : Nat → Int) (hR : ∀ j, 0 ≤ R j ∧ R j ≤ 255) (n0 : Nat) (hb : qfRowB n0) (hc : ¬ (2 > ((n0 : Int) - 46))) : @EntOK (qfRowV R hR n0) Try.prog qfRows344 := by
  letI : Env := qfRowV R hR n0
  exact entCmp (k := .i64) (a := 2) (b := ((n0 : Int) - 46)) rfl rfl (by show some (decide ((2 : Int) > ((n0 : Int) - 46))) = some false; rw [decide_eq_false (by omega)])
def qfRows345 : Ent := .slen 0 97 (.chan (some 178))
theorem qfRows345_ok (R : Nat → Int) (hR : ∀ j, 0 ≤ R j ∧ R j ≤ 255) (n0 : Nat) (hb : qfRowB n0) (hc : 48 ≤ n0) : @EntOK (qfRowV R hR n0) Try.prog qfRows345 := by
  letI : Env := qfRowV R hR n0
  exact entSlen (n := n0) (j := 178) (c := ((n0 : Int) - 48)) rfl rfl (by simp; try omega) (by first | exact .inl rfl | (right; omega))
def qfRows346 : Ent := .conv .u32 (.chan (some 1048622)) (.chan (some 179))
theorem qfRows346_ok (R : Nat → Int) (hR : ∀ j, 0 ≤ R j ∧ R j ≤ 255) (n0 : Nat) (hb : qfRowB n0) : @EntOK (qfRowV R hR n0) Try.prog qfRows346 := by
  letI : Env := qfRowV R hR n0
  have rb1048622 := hR 1048622; exact entConvV (k := .u32) (l := .u8) (a := (R 1048622)) (c := (R 1048622)) rfl rfl (by rw [IntWalk.u32_in _ (by omega)])
def qfRows347 : Ent := .bin .or (.int .u32 0) (.chan (some 179)) (.chan (some 179))
theorem qfRows347_ok (R : Nat → Int) (hR : ∀ j, 0 ≤ R j ∧ R j ≤ 255) (n0 : Nat) (hb : qfRowB n0) : @EntOK (qfRowV R hR n0) Try.prog qfRows347 := by
  letI : Env := qfRowV R hR n0
  have rb1048622 := hR 1048622; exact entOrV (k := .u32) (a := 0) (b := (R 1048622)) (c := (R 1048622)) rfl rfl rfl (by have h := join_u32 0 (R 1048622) 8 256 (by decide) (by omega) (by omega) (by omega) (by omega); simpa using h)
def qfRows348 : Ent := .bin .shl (.chan (some 179)) (.int .u64 8) (.chan (some 180))
theorem qfRows348_ok (R : Nat → Int) (hR : ∀ j, 0 ≤ R j ∧ R j ≤ 255) (n0 : Nat) (hb : qfRowB n0) : @EntOK (qfRowV R hR n0) Try.prog qfRows348 := by
  letI : Env := qfRowV R hR n0
  have rb1048622 := hR 1048622; exact entShlV (k := .u32) (l := .u64) (a := (R 1048622)) (c := ((R 1048622) * 256)) (s := 8) rfl rfl rfl (by decide) (by show IntKind.u32.wrap ((R 1048622) * 2 ^ 8) = ((R 1048622) * 256); rw [show ((2 : Int) ^ 8) = 256 from by decide, IntWalk.u32_in _ (by omega)])
def qfRows349 : Ent := .conv .u32 (.chan (some 1048623)) (.chan (some 181))
theorem qfRows349_ok (R : Nat → Int) (hR : ∀ j, 0 ≤ R j ∧ R j ≤ 255) (n0 : Nat) (hb : qfRowB n0) : @EntOK (qfRowV R hR n0) Try.prog qfRows349 := by
  letI : Env := qfRowV R hR n0
  have rb1048623 := hR 1048623; exact entConvV (k := .u32) (l := .u8) (a := (R 1048623)) (c := (R 1048623)) rfl rfl (by rw [IntWalk.u32_in _ (by omega)])
def qfRows350 : Ent := .bin .or (.chan (some 180)) (.chan (some 181)) (.chan (some 182))
theorem qfRows350_ok (R : Nat → Int) (hR : ∀ j, 0 ≤ R j ∧ R j ≤ 255) (n0 : Nat) (hb : qfRowB n0) : @EntOK (qfRowV R hR n0) Try.prog qfRows350 := by
  letI : Env := qfRowV R hR n0
  have rb1048622 := hR 1048622; have rb1048623 := hR 1048623; exact entOrV (k := .u32) (a := ((R 1048622) * 256)) (b := (R 1048623)) (c := (((R 1048622) * 256) + (R 1048623))) rfl rfl rfl (by exact join_u32 (R 1048622) (R 1048623) 8 256 (by decide) (by omega) (by omega) (by omega) (by omega))
def qfRows351 : Ent := .conv .i64 (.chan (some 182)) (.chan (some 183))
theorem qfRows351_ok (R : Nat → Int) (hR : ∀ j, 0 ≤ R j ∧ R j ≤ 255) (n0 : Nat) (hb : qfRowB n0) : @EntOK (qfRowV R hR n0) Try.prog qfRows351 := by
  letI : Env := qfRowV R hR n0
  have rb1048622 := hR 1048622; have rb1048623 := hR 1048623; exact entConvV (k := .i64) (l := .u32) (a := (((R 1048622) * 256) + (R 1048623))) (c := (((R 1048622) * 256) + (R 1048623))) rfl rfl (by rw [IntWalk.i64_in _ (by omega)])
def qfRows352 : Ent := .bin .geq (.chan (some 0)) (.int .i64 48) (.bool true)
theorem qfRows352_ok (R : Nat → Int) (hR : ∀ j, 0 ≤ R j ∧ R j ≤ 255) (n0 : Nat) (hb : qfRowB n0) (hc : (n0 : Int) ≥ 48) : @EntOK (qfRowV R hR n0) Try.prog qfRows352 := by
  letI : Env := qfRowV R hR n0
  exact entCmp (k := .i64) (a := (n0 : Int)) (b := 48) rfl rfl (by show some (decide (((n0 : Int) : Int) ≥ 48)) = some true; rw [decide_eq_true (by omega)])
def qfRows353 : Ent := .conv .i64 (.chan (some 1048620)) (.chan (some 184))
theorem qfRows353_ok (R : Nat → Int) (hR : ∀ j, 0 ≤ R j ∧ R j ≤ 255) (n0 : Nat) (hb : qfRowB n0) : @EntOK (qfRowV R hR n0) Try.prog qfRows353 := by
  letI : Env := qfRowV R hR n0
  have rb1048620 := hR 1048620; exact entConvV (k := .i64) (l := .u8) (a := (R 1048620)) (c := (R 1048620)) rfl rfl (by rw [IntWalk.i64_in _ (by omega)])
def qfRows354 : Ent := .bin .shl (.chan (some 184)) (.int .u64 8) (.chan (some 185))
theorem qfRows354_ok (R : Nat → Int) (hR : ∀ j, 0 ≤ R j ∧ R j ≤ 255) (n0 : Nat) (hb : qfRowB n0) : @EntOK (qfRowV R hR n0) Try.prog qfRows354 := by
  letI : Env := qfRowV R hR n0
  have rb1048620 := hR 1048620; exact entShlV (k := .i64) (l := .u64) (a := (R 1048620)) (c := ((R 1048620) * 256)) (s := 8) rfl rfl rfl (by decide) (by show IntKind.i64.wrap ((R 1048620) * 2 ^ 8) = ((R 1048620) * 256); rw [show ((2 : Int) ^ 8) = 256 from by decide, IntWalk.i64_in _ (by omega)])
def qfRows355 : Ent := .conv .i64 (.chan (some 1048621)) (.chan (some 186))
theorem qfRows355_ok (R : Nat → Int) (hR : ∀ j, 0 ≤ R j ∧ R j ≤ 255) (n0 : Nat) (hb : qfRowB n0) : @EntOK (qfRowV R hR n0) Try.prog qfRows355 := by
  letI : Env := qfRowV R hR n0
  have rb1048621 := hR 1048621; exact entConvV (k := .i64) (l := .u8) (a := (R 1048621)) (c := (R 1048621)) rfl rfl (by rw [IntWalk.i64_in _ (by omega)])
def qfRows356 : Ent := .bin .or (.chan (some 185)) (.chan (some 186)) (.chan (some 177))
theorem qfRows356_ok (R : Nat → Int) (hR : ∀ j, 0 ≤ R j ∧ R j ≤ 255) (n0 : Nat) (hb : qfRowB n0) : @EntOK (qfRowV R hR n0) Try.prog qfRows356 := by
  letI : Env := qfRowV R hR n0
  have rb1048620 := hR 1048620; have rb1048621 := hR 1048621; exact entOrV (k := .i64) (a := ((R 1048620) * 256)) (b := (R 1048621)) (c := (((R 1048620) * 256) + (R 1048621))) rfl rfl rfl (by exact join_i64 (R 1048620) (R 1048621) 8 256 (by decide) (by omega) (by omega) (by omega) (by omega))
def qfRows357 : Ent := .conv .i64 (.chan (some 1048622)) (.chan (some 187))
theorem qfRows357_ok (R : Nat → Int) (hR : ∀ j, 0 ≤ R j ∧ R j ≤ 255) (n0 : Nat) (hb : qfRowB n0) : @EntOK (qfRowV R hR n0) Try.prog qfRows357 := by
  letI : Env := qfRowV R hR n0
  have rb1048622 := hR 1048622; exact entConvV (k := .i64) (l := .u8) (a := (R 1048622)) (c := (R 1048622)) rfl rfl (by rw [IntWalk.i64_in _ (by omega)])
def qfRows358 : Ent := .bin .shl (.chan (some 187)) (.int .u64 8) (.chan (some 188))
theorem qfRows358_ok (R : Nat → Int) (hR : ∀ j, 0 ≤ R j ∧ R j ≤ 255) (n0 : Nat) (hb : qfRowB n0) : @EntOK (qfRowV R hR n0) Try.prog qfRows358 := by
  letI : Env := qfRowV R hR n0
  have rb1048622 := hR 1048622; exact entShlV (k := .i64) (l := .u64) (a := (R 1048622)) (c := ((R 1048622) * 256)) (s := 8) rfl rfl rfl (by decide) (by show IntKind.i64.wrap ((R 1048622) * 2 ^ 8) = ((R 1048622) * 256); rw [show ((2 : Int) ^ 8) = 256 from by decide, IntWalk.i64_in _ (by omega)])
def qfRows359 : Ent := .conv .i64 (.chan (some 1048623)) (.chan (some 189))
theorem qfRows359_ok (R : Nat → Int) (hR : ∀ j, 0 ≤ R j ∧ R j ≤ 255) (n0 : Nat) (hb : qfRowB n0) : @EntOK (qfRowV R hR n0) Try.prog qfRows359 := by
  letI : Env := qfRowV R hR n0
  have rb1048623 := hR 1048623; exact entConvV (k := .i64) (l := .u8) (a := (R 1048623)) (c := (R 1048623)) rfl rfl (by rw [IntWalk.i64_in _ (by omega)])
def qfRows360 : Ent := .bin .or (.chan (some 188)) (.chan (some 189)) (.chan (some 183))
theorem qfRows360_ok (R : Nat → Int) (hR : ∀ j, 0 ≤ R j ∧ R j ≤ 255) (n0 : Nat) (hb : qfRowB n0) : @EntOK (qfRowV R hR n0) Try.prog qfRows360 := by
  letI : Env := qfRowV R hR n0
  have rb1048622 := hR 1048622; have rb1048623 := hR 1048623; exact entOrV (k := .i64) (a := ((R 1048622) * 256)) (b := (R 1048623)) (c := (((R 1048622) * 256) + (R 1048623))) rfl rfl rfl (by exact join_i64 (R 1048622) (R 1048623) 8 256 (by decide) (by omega) (by omega) (by omega) (by omega))
def qfRows361 : Ent := .eqs false 50 [.chan (some 17), .chan (some 34), .chan (some 177), .chan (some 45), .chan (some 183)] [.chan (some 17), .chan (some 54), .chan (some 177), .chan (some 60), .chan (some 183)] true
theorem qfRows361_ok (R : Nat → Int) (hR : ∀ j, 0 ≤ R j ∧ R j ≤ 255) (n0 : Nat) (hb : qfRowB n0) : @EntOK (qfRowV R hR n0) Try.prog qfRows361 := by
  letI : Env := qfRowV R hR n0
  have rb1048588 := hR 1048588; have rb1048589 := hR 1048589; have rb1048590 := hR 1048590; have rb1048591 := hR 1048591; have rb1048592 := hR 1048592; have rb1048593 := hR 1048593; have rb1048594 := hR 1048594; have rb1048595 := hR 1048595; exact ⟨by intro v hv; simp only [List.mem_cons, List.not_mem_nil, or_false] at hv; rcases hv with rfl | rfl | rfl | rfl | rfl <;> first | exact .inl ⟨_, _, rfl⟩ | exact .inr ⟨_, rfl⟩, by intro v hv; simp only [List.mem_cons, List.not_mem_nil, or_false] at hv; rcases hv with rfl | rfl | rfl | rfl | rfl <;> first | exact .inl ⟨_, _, rfl⟩ | exact .inr ⟨_, rfl⟩, by intro a1 a2 w; have e0 : (((((((R 1048588) * 256) + (R 1048589)) * 256) + (R 1048590)) * 256) + (R 1048591)) = (((((R 1048588) * 16777216) + ((R 1048589) * 65536)) + ((R 1048590) * 256)) + (R 1048591)) := (by omega); have e1 : (((((((R 1048592) * 256) + (R 1048593)) * 256) + (R 1048594)) * 256) + (R 1048595)) = (((((R 1048592) * 16777216) + ((R 1048593) * 65536)) + ((R 1048594) * 256)) + (R 1048595)) := (by omega); exact eqFlow _ _ _ _ _ _ _ _ _ _ (by omega) (by omega) (by omega) (by omega) (by omega) a1 a2 w⟩
def qfRows362 : Ent := .bin .and (.chan (some 3)) (.int .i64 15) (.int .i64 12)
theorem qfRows362_ok (R : Nat → Int) (hR : ∀ j, 0 ≤ R j ∧ R j ≤ 255) (n0 : Nat) (hb : qfRowB n0) (hc : ((R 1048576) % 16) = 12) : @EntOK (qfRowV R hR n0) Try.prog qfRows362 := by
  letI : Env := qfRowV R hR n0
  have rb1048576 := hR 1048576; exact entAndI (k := .i64) (a := (R 1048576)) (b := 15) (c := 12) rfl rfl (by rw [show band .i64 (R 1048576) 15 = ((R 1048576) % 16) from (by exact mask_i64 (R 1048576) 4 15 16 (by decide) (by decide) (by decide))]; omega)
def qfRows363 : Ent := .bin .gtr (.int .i64 28) (.chan (some 35)) (.bool true)
theorem qfRows363_ok (R : Nat → Int) (hR : ∀ j, 0 ≤ R j ∧ R j ≤ 255) (n0 : Nat) (hb : qfRowB n0) (hc : 28 > ((n0 : Int) - 20)) : @EntOK (qfRowV R hR n0) Try.prog qfRows363 := by
  letI : Env := qfRowV R hR n0
  exact entCmp (k := .i64) (a := 28) (b := ((n0 : Int) - 20)) rfl rfl (by show some (decide ((28 : Int) > ((n0 : Int) - 20))) = some true; rw [decide_eq_true (by omega)])
def qfRows364 : Ent := .bin .rem (.chan (some 1048576)) (.int .u8 16) (.int .u8 12)
theorem qfRows364_ok (R : Nat → Int) (hR : ∀ j, 0 ≤ R j ∧ R j ≤ 255) (n0 : Nat) (hb : qfRowB n0) (hc : ((R 1048576) % 16) = 12) : @EntOK (qfRowV R hR n0) Try.prog qfRows364 := by
  letI : Env := qfRowV R hR n0
  have rb1048576 := hR 1048576; exact entRemI (k := .u8) (a := (R 1048576)) (b := 16) (c := 12) rfl rfl (by omega) (by rw [Int.tmod_eq_emod_of_nonneg (by omega)]; omega)
def qfRows365 : Ent := .bin .gtr (.int .i64 48) (.chan (some 0)) (.bool true)
theorem qfRows365_ok (R : Nat → Int) (hR : ∀ j, 0 ≤ R j ∧ R j ≤ 255) (n0 : Nat) (hb : qfRowB n0) (hc : 48 > (n0 : Int)) : @EntOK (qfRowV R hR n0) Try.prog qfRows365 := by
  letI : Env := qfRowV R hR n0
  exact entCmp (k := .i64) (a := 48) (b := (n0 : Int)) rfl rfl (by show some (decide ((48 : Int) > (n0 : Int))) = some true; rw [decide_eq_true (by omega)])
def qfRows366 : Ent := .bin .gtr (.int .i64 28) (.chan (some 35)) (.bool false)
theorem qfRows366_ok (R : Nat → Int) (hR : ∀ j, 0 ≤ R j ∧ R j ≤ 255) (n0 : Nat) (hb : qfRowB n0) (hc : ¬ (28 > ((n0 : Int) - 20))) : @EntOK (qfRowV R hR n0) Try.prog qfRows366 := by
  letI : Env := qfRowV R hR n0
  exact entCmp (k := .i64) (a := 28) (b := ((n0 : Int) - 20)) rfl rfl (by show some (decide ((28 : Int) > ((n0 : Int) - 20))) = some false; rw [decide_eq_false (by omega)])
def qfRows367 : Ent := .bin .gtr (.int .i64 0) (.chan (some 178)) (.bool false)
theorem qfRows367_ok (R : Nat → Int) (hR : ∀ j, 0 ≤ R j ∧ R j ≤ 255) (n0 : Nat) (hb : qfRowB n0) (hc : ¬ (0 > ((n0 : Int) - 48))) : @EntOK (qfRowV R hR n0) Try.prog qfRows367 := by
  letI : Env := qfRowV R hR n0
  exact entCmp (k := .i64) (a := 0) (b := ((n0 : Int) - 48)) rfl rfl (by show some (decide ((0 : Int) > ((n0 : Int) - 48))) = some false; rw [decide_eq_false (by omega)])
def qfRows368 : Ent := .bin .geq (.chan (some 178)) (.int .i64 4) (.bool false)
theorem qfRows368_ok (R : Nat → Int) (hR : ∀ j, 0 ≤ R j ∧ R j ≤ 255) (n0 : Nat) (hb : qfRowB n0) (hc : ¬ (((n0 : Int) - 48) ≥ 4)) : @EntOK (qfRowV R hR n0) Try.prog qfRows368 := by
  letI : Env := qfRowV R hR n0
  exact entCmp (k := .i64) (a := ((n0 : Int) - 48)) (b := 4) rfl rfl (by show some (decide ((((n0 : Int) - 48) : Int) ≥ 4)) = some false; rw [decide_eq_false (by omega)])
def qfRows369 : Ent := .bin .gtr (.int .i64 48) (.chan (some 0)) (.bool false)
theorem qfRows369_ok (R : Nat → Int) (hR : ∀ j, 0 ≤ R j ∧ R j ≤ 255) (n0 : Nat) (hb : qfRowB n0) (hc : ¬ (48 > (n0 : Int))) : @EntOK (qfRowV R hR n0) Try.prog qfRows369 := by
  letI : Env := qfRowV R hR n0
  exact entCmp (k := .i64) (a := 48) (b := (n0 : Int)) rfl rfl (by show some (decide ((48 : Int) > (n0 : Int))) = some false; rw [decide_eq_false (by omega)])
def qfRows370 : Ent := .bin .geq (.chan (some 0)) (.int .i64 52) (.bool false)
theorem qfRows370_ok (R : Nat → Int) (hR : ∀ j, 0 ≤ R j ∧ R j ≤ 255) (n0 : Nat) (hb : qfRowB n0) (hc : ¬ ((n0 : Int) ≥ 52)) : @EntOK (qfRowV R hR n0) Try.prog qfRows370 := by
  letI : Env := qfRowV R hR n0
  exact entCmp (k := .i64) (a := (n0 : Int)) (b := 52) rfl rfl (by show some (decide (((n0 : Int) : Int) ≥ 52)) = some false; rw [decide_eq_false (by omega)])
def qfRows371 : Ent := .bin .geq (.chan (some 178)) (.int .i64 4) (.bool true)
theorem qfRows371_ok (R : Nat → Int) (hR : ∀ j, 0 ≤ R j ∧ R j ≤ 255) (n0 : Nat) (hb : qfRowB n0) (hc : ((n0 : Int) - 48) ≥ 4) : @EntOK (qfRowV R hR n0) Try.prog qfRows371 := by
  letI : Env := qfRowV R hR n0
  exact entCmp (k := .i64) (a := ((n0 : Int) - 48)) (b := 4) rfl rfl (by show some (decide ((((n0 : Int) - 48) : Int) ≥ 4)) = some true; rw [decide_eq_true (by omega)])
def qfRows372 : Ent := .bin .gtr (.int .i64 2) (.chan (some 178)) (.bool false)
theorem qfRows372_ok (R : Nat → Int) (hR : ∀ j, 0 ≤ R j ∧ R j ≤ 255) (n0 : Nat) (hb : qfRowB n0) (hc : ¬ ((2 : Int) > ((n0 : Int) - 48))) : @EntOK (qfRowV R hR n0) Try.prog qfRows372 := by
  letI : Env := qfRowV R hR n0
  exact entCmp (k := .i64) (a := 2) (b := ((n0 : Int) - 48)) rfl rfl (by show some (decide ((2 : Int) > ((n0 : Int) - 48))) = some false; rw [decide_eq_false (by omega)])
def qfRows373 : Ent := .slen 0 101 (.chan (some 190))
theorem qfRows373_ok (R : Nat → Int) (hR : ∀ j, 0 ≤ R j ∧ R j ≤ 255) (n0 : Nat) (hb : qfRowB n0) (hc : 50 ≤ n0) : @EntOK (qfRowV R hR n0) Try.prog qfRows373 := by
  letI : Env := qfRowV R hR n0
  exact entSlen (n := n0) (j := 190) (c := ((n0 : Int) - 50)) rfl rfl (by simp; try omega) (by first | exact .inl rfl | (right; omega))
def qfRows374 : Ent := .conv .u32 (.chan (some 1048624)) (.chan (some 191))
theorem qfRows374_ok (R : Nat → Int) (hR : ∀ j, 0 ≤ R j ∧ R j ≤ 255) (n0 : Nat) (hb : qfRowB n0) : @EntOK (qfRowV R hR n0) Try.prog qfRows374 := by
  letI : Env := qfRowV R hR n0
  have rb1048624 := hR 1048624; exact entConvV (k := .u32) (l := .u8) (a := (R 1048624)) (c := (R 1048624)) rfl rfl (by rw [IntWalk.u32_in _ (by omega)])
def qfRows375 : Ent := .bin .or (.int .u32 0) (.chan (some 191)) (.chan (some 191))
theorem qfRows375_ok (R : Nat → Int) (hR : ∀ j, 0 ≤ R j ∧ R j ≤ 255) (n0 : Nat) (hb : qfRowB n0) : @EntOK (qfRowV R hR n0) Try.prog qfRows375 := by
  letI : Env := qfRowV R hR n0
  have rb1048624 := hR 1048624; exact entOrV (k := .u32) (a := 0) (b := (R 1048624)) (c := (R 1048624)) rfl rfl rfl (by have h := join_u32 0 (R 1048624) 8 256 (by decide) (by omega) (by omega) (by omega) (by omega); simpa using h)
def qfRows376 : Ent := .bin .shl (.chan (some 191)) (.int .u64 8) (.chan (some 192))
theorem qfRows376_ok (R : Nat → Int) (hR : ∀ j, 0 ≤ R j ∧ R j ≤ 255) (n0 : Nat) (hb : qfRowB n0) : @EntOK (qfRowV R hR n0) Try.prog qfRows376 := by
  letI : Env := qfRowV R hR n0
  have rb1048624 := hR 1048624; exact entShlV (k := .u32) (l := .u64) (a := (R 1048624)) (c := ((R 1048624) * 256)) (s := 8) rfl rfl rfl (by decide) (by show IntKind.u32.wrap ((R 1048624) * 2 ^ 8) = ((R 1048624) * 256); rw [show ((2 : Int) ^ 8) = 256 from by decide, IntWalk.u32_in _ (by omega)])
def qfRows377 : Ent := .conv .u32 (.chan (some 1048625)) (.chan (some 193))
theorem qfRows377_ok (R : Nat → Int) (hR : ∀ j, 0 ≤ R j ∧ R j ≤ 255) (n0 : Nat) (hb : qfRowB n0) : @EntOK (qfRowV R hR n0) Try.prog qfRows377 := by
  letI : Env := qfRowV R hR n0
  have rb1048625 := hR 1048625; exact entConvV (k := .u32) (l := .u8) (a := (R 1048625)) (c := (R 1048625)) rfl rfl (by rw [IntWalk.u32_in _ (by omega)])
def qfRows378 : Ent := .bin .or (.chan (some 192)) (.chan (some 193)) (.chan (some 194))
theorem qfRows378_ok (R : Nat → Int) (hR : ∀ j, 0 ≤ R j ∧ R j ≤ 255) (n0 : Nat) (hb : qfRowB n0) : @EntOK (qfRowV R hR n0) Try.prog qfRows378 := by
  letI : Env := qfRowV R hR n0
  have rb1048624 := hR 1048624; have rb1048625 := hR 1048625; exact entOrV (k := .u32) (a := ((R 1048624) * 256)) (b := (R 1048625)) (c := (((R 1048624) * 256) + (R 1048625))) rfl rfl rfl (by exact join_u32 (R 1048624) (R 1048625) 8 256 (by decide) (by omega) (by omega) (by omega) (by omega))
def qfRows379 : Ent := .conv .i64 (.chan (some 194)) (.chan (some 195))
theorem qfRows379_ok (R : Nat → Int) (hR : ∀ j, 0 ≤ R j ∧ R j ≤ 255) (n0 : Nat) (hb : qfRowB n0) : @EntOK (qfRowV R hR n0) Try.prog qfRows379 := by
  letI : Env := qfRowV R hR n0
  have rb1048624 := hR 1048624; have rb1048625 := hR 1048625; exact entConvV (k := .i64) (l := .u32) (a := (((R 1048624) * 256) + (R 1048625))) (c := (((R 1048624) * 256) + (R 1048625))) rfl rfl (by rw [IntWalk.i64_in _ (by omega)])
def qfRows380 : Ent := .bin .gtr (.int .i64 2) (.chan (some 190)) (.bool false)
theorem qfRows380_ok (R : Nat → Int) (hR : ∀ j, 0 ≤ R j ∧ R j ≤ 255) (n0 : Nat) (hb : qfRowB n0) (hc : ¬ (2 > ((n0 : Int) - 50))) : @EntOK (qfRowV R hR n0) Try.prog qfRows380 := by
  letI : Env := qfRowV R hR n0
  exact entCmp (k := .i64) (a := 2) (b := ((n0 : Int) - 50)) rfl rfl (by show some (decide ((2 : Int) > ((n0 : Int) - 50))) = some false; rw [decide_eq_false (by omega)])
def qfRows381 : Ent := .slen 0 105 (.chan (some 196))
theorem qfRows381_ok (R : Nat → Int) (hR : ∀ j, 0 ≤ R j ∧ R j ≤ 255) (n0 : Nat) (hb : qfRowB n0) (hc : 52 ≤ n0) : @EntOK (qfRowV R hR n0) Try.prog qfRows381 := by
  letI : Env := qfRowV R hR n0
  exact entSlen (n := n0) (j := 196) (c := ((n0 : Int) - 52)) rfl rfl (by simp; try omega) (by first | exact .inl rfl | (right; omega))
def qfRows382 : Ent := .conv .u32 (.chan (some 1048626)) (.chan (some 197))
theorem qfRows382_ok (R : Nat → Int) (hR : ∀ j, 0 ≤ R j ∧ R j ≤ 255) (n0 : Nat) (hb : qfRowB n0) : @EntOK (qfRowV R hR n0) Try.prog qfRows382 := by
  letI : Env := qfRowV R hR n0
  have rb1048626 := hR 1048626; exact entConvV (k := .u32) (l := .u8) (a := (R 1048626)) (c := (R 1048626)) rfl rfl (by rw [IntWalk.u32_in _ (by omega)])
def qfRows383 : Ent := .bin .or (.int .u32 0) (.chan (some 197)) (.chan (some 197))
theorem qfRows383_ok (R : Nat → Int) (hR : ∀ j, 0 ≤ R j ∧ R j ≤ 255) (n0 : Nat) (hb : qfRowB n0) : @EntOK (qfRowV R hR n0) Try.prog qfRows383 := by
  letI : Env := qfRowV R hR n0
  have rb1048626 := hR 1048626; exact entOrV (k := .u32) (a := 0) (b := (R 1048626)) (c := (R 1048626)) rfl rfl rfl (by have h := join_u32 0 (R 1048626) 8 256 (by decide) (by omega) (by omega) (by omega) (by omega); simpa using h)
def qfRows384 : Ent := .bin .shl (.chan (some 197)) (.int .u64 8) (.chan (some 198))
theorem qfRows384_ok (R : Nat → Int) (hR : ∀ j, 0 ≤ R j ∧ R j ≤ 255) (n0 : Nat) (hb : qfRowB n0) : @EntOK (qfRowV R hR n0) Try.prog qfRows384 := by
  letI : Env := qfRowV R hR n0
  have rb1048626 := hR 1048626; exact entShlV (k := .u32) (l := .u64) (a := (R 1048626)) (c := ((R 1048626) * 256)) (s := 8) rfl rfl rfl (by decide) (by show IntKind.u32.wrap ((R 1048626) * 2 ^ 8) = ((R 1048626) * 256); rw [show ((2 : Int) ^ 8) = 256 from by decide, IntWalk.u32_in _ (by omega)])
def qfRows385 : Ent := .conv .u32 (.chan (some 1048627)) (.chan (some 199))
theorem qfRows385_ok (R : Nat → Int) (hR : ∀ j, 0 ≤ R j ∧ R j ≤ 255) (n0 : Nat) (hb : qfRowB n0) : @EntOK (qfRowV R hR n0) Try.prog qfRows385 := by
  letI : Env := qfRowV R hR n0
  have rb1048627 := hR 1048627; exact entConvV (k := .u32) (l := .u8) (a := (R 1048627)) (c := (R 1048627)) rfl rfl (by rw [IntWalk.u32_in _ (by omega)])
def qfRows386 : Ent := .bin .or (.chan (some 198)) (.chan (some 199)) (.chan (some 200))
theorem qfRows386_ok (R : Nat → Int) (hR : ∀ j, 0 ≤ R j ∧ R j ≤ 255) (n0 : Nat) (hb : qfRowB n0) : @EntOK (qfRowV R hR n0) Try.prog qfRows386 := by
  letI : Env := qfRowV R hR n0
  have rb1048626 := hR 1048626; have rb1048627 := hR 1048627; exact entOrV (k := .u32) (a := ((R 1048626) * 256)) (b := (R 1048627)) (c := (((R 1048626) * 256) + (R 1048627))) rfl rfl rfl (by exact join_u32 (R 1048626) (R 1048627) 8 256 (by decide) (by omega) (by omega) (by omega) (by omega))
def qfRows387 : Ent := .conv .i64 (.chan (some 200)) (.chan (some 201))
theorem qfRows387_ok (R : Nat → Int) (hR : ∀ j, 0 ≤ R j ∧ R j ≤ 255) (n0 : Nat) (hb : qfRowB n0) : @EntOK (qfRowV R hR n0) Try.prog qfRows387 := by
  letI : Env := qfRowV R hR n0
  have rb1048626 := hR 1048626; have rb1048627 := hR 1048627; exact entConvV (k := .i64) (l := .u32) (a := (((R 1048626) * 256) + (R 1048627))) (c := (((R 1048626) * 256) + (R 1048627))) rfl rfl (by rw [IntWalk.i64_in _ (by omega)])
def qfRows388 : Ent := .bin .geq (.chan (some 0)) (.int .i64 52) (.bool true)
theorem qfRows388_ok (R : Nat → Int) (hR : ∀ j, 0 ≤ R j ∧ R j ≤ 255) (n0 : Nat) (hb : qfRowB n0) (hc : (n0 : Int) ≥ 52) : @EntOK (qfRowV R hR n0) Try.prog qfRows388 := by
  letI : Env := qfRowV R hR n0
  exact entCmp (k := .i64) (a := (n0 : Int)) (b := 52) rfl rfl (by show some (decide (((n0 : Int) : Int) ≥ 52)) = some true; rw [decide_eq_true (by omega)])
def qfRows389 : Ent := .conv .i64 (.chan (some 1048624)) (.chan (some 202))
theorem qfRows389_ok (R : Nat → Int) (hR : ∀ j, 0 ≤ R j ∧ R j ≤ 255) (n0 : Nat) (hb : qfRowB n0) : @EntOK (qfRowV R hR n0) Try.prog qfRows389 := by
  letI : Env := qfRowV R hR n0
  have rb1048624 := hR 1048624; exact entConvV (k := .i64) (l := .u8) (a := (R 1048624)) (c := (R 1048624)) rfl rfl (by rw [IntWalk.i64_in _ (by omega)])
def qfRows390 : Ent := .bin .shl (.chan (some 202)) (.int .u64 8) (.chan (some 203))
theorem qfRows390_ok (R : Nat → Int) (hR : ∀ j, 0 ≤ R j ∧ R j ≤ 255) (n0 : Nat) (hb : qfRowB n0) : @EntOK (qfRowV R hR n0) Try.prog qfRows390 := by
  letI : Env := qfRowV R hR n0
  have rb1048624 := hR 1048624; exact entShlV (k := .i64) (l := .u64) (a := (R 1048624)) (c := ((R 1048624) * 256)) (s := 8) rfl rfl rfl (by decide) (by show IntKind.i64.wrap ((R 1048624) * 2 ^ 8) = ((R 1048624) * 256); rw [show ((2 : Int) ^ 8) = 256 from by decide, IntWalk.i64_in _ (by omega)])
def qfRows391 : Ent := .conv .i64 (.chan (some 1048625)) (.chan (some 204))
theorem qfRows391_ok (R : Nat → Int) (hR : ∀ j, 0 ≤ R j ∧ R j ≤ 255) (n0 : Nat) (hb : qfRowB n0) : @EntOK (qfRowV R hR n0) Try.prog qfRows391 := by
  letI : Env := qfRowV R hR n0
  have rb1048625 := hR 1048625; exact entConvV (k := .i64) (l := .u8) (a := (R 1048625)) (c := (R 1048625)) rfl rfl (by rw [IntWalk.i64_in _ (by omega)])
def qfRows392 : Ent := .bin .or (.chan (some 203)) (.chan (some 204)) (.chan (some 195))
theorem qfRows392_ok (R : Nat → Int) (hR : ∀ j, 0 ≤ R j ∧ R j ≤ 255) (n0 : Nat) (hb : qfRowB n0) : @EntOK (qfRowV R hR n0) Try.prog qfRows392 := by
  letI : Env := qfRowV R hR n0
  have rb1048624 := hR 1048624; have rb1048625 := hR 1048625; exact entOrV (k := .i64) (a := ((R 1048624) * 256)) (b := (R 1048625)) (c := (((R 1048624) * 256) + (R 1048625))) rfl rfl rfl (by exact join_i64 (R 1048624) (R 1048625) 8 256 (by decide) (by omega) (by omega) (by omega) (by omega))
def qfRows393 : Ent := .conv .i64 (.chan (some 1048626)) (.chan (some 205))
theorem qfRows393_ok (R : Nat → Int) (hR : ∀ j, 0 ≤ R j ∧ R j ≤ 255) (n0 : Nat) (hb : qfRowB n0) : @EntOK (qfRowV R hR n0) Try.prog qfRows393 := by
  letI : Env := qfRowV R hR n0
  have rb1048626 := hR 1048626; exact entConvV (k := .i64) (l := .u8) (a := (R 1048626)) (c := (R 1048626)) rfl rfl (by rw [IntWalk.i64_in _ (by omega)])
def qfRows394 : Ent := .bin .shl (.chan (some 205)) (.int .u64 8) (.chan (some 206))
theorem qfRows394_ok (R : Nat → Int) (hR : ∀ j, 0 ≤ R j ∧ R j ≤ 255) (n0 : Nat) (hb : qfRowB n0) : @EntOK (qfRowV R hR n0) Try.prog qfRows394 := by
  letI : Env := qfRowV R hR n0
  have rb1048626 := hR 1048626; exact entShlV (k := .i64) (l := .u64) (a := (R 1048626)) (c := ((R 1048626) * 256)) (s := 8) rfl rfl rfl (by decide) (by show IntKind.i64.wrap ((R 1048626) * 2 ^ 8) = ((R 1048626) * 256); rw [show ((2 : Int) ^ 8) = 256 from by decide, IntWalk.i64_in _ (by omega)])
def qfRows395 : Ent := .conv .i64 (.chan (some 1048627)) (.chan (some 207))
theorem qfRows395_ok (R : Nat → Int) (hR : ∀ j, 0 ≤ R j ∧ R j ≤ 255) (n0 : Nat) (hb : qfRowB n0) : @EntOK (qfRowV R hR n0) Try.prog qfRows395 := by
  letI : Env := qfRowV R hR n0
  have rb1048627 := hR 1048627; exact entConvV (k := .i64) (l := .u8) (a := (R 1048627)) (c := (R 1048627)) rfl rfl (by rw [IntWalk.i64_in _ (by omega)])
def qfRows396 : Ent := .bin .or (.chan (some 206)) (.chan (some 207)) (.chan (some 201))
theorem qfRows396_ok (R : Nat → Int) (hR : ∀ j, 0 ≤ R j ∧ R j ≤ 255) (n0 : Nat) (hb : qfRowB n0) : @EntOK (qfRowV R hR n0) Try.prog qfRows396 := by
  letI : Env := qfRowV R hR n0
  have rb1048626 := hR 1048626; have rb1048627 := hR 1048627; exact entOrV (k := .i64) (a := ((R 1048626) * 256)) (b := (R 1048627)) (c := (((R 1048626) * 256) + (R 1048627))) rfl rfl rfl (by exact join_i64 (R 1048626) (R 1048627) 8 256 (by decide) (by omega) (by omega) (by omega) (by omega))
def qfRows397 : Ent := .eqs false 50 [.chan (some 17), .chan (some 34), .chan (some 195), .chan (some 45), .chan (some 201)] [.chan (some 17), .chan (some 54), .chan (some 195), .chan (some 60), .chan (some 201)] true
theorem qfRows397_ok (R : Nat → Int) (hR : ∀ j, 0 ≤ R j ∧ R j ≤ 255) (n0 : Nat) (hb : qfRowB n0) : @EntOK (qfRowV R hR n0) Try.prog qfRows397 := by
  letI : Env := qfRowV R hR n0
  have rb1048588 := hR 1048588; have rb1048589 := hR 1048589; have rb1048590 := hR 1048590; have rb1048591 := hR 1048591; have rb1048592 := hR 1048592; have rb1048593 := hR 1048593; have rb1048594 := hR 1048594; have rb1048595 := hR 1048595; exact ⟨by intro v hv; simp only [List.mem_cons, List.not_mem_nil, or_false] at hv; rcases hv with rfl | rfl | rfl | rfl | rfl <;> first | exact .inl ⟨_, _, rfl⟩ | exact .inr ⟨_, rfl⟩, by intro v hv; simp only [List.mem_cons, List.not_mem_nil, or_false] at hv; rcases hv with rfl | rfl | rfl | rfl | rfl <;> first | exact .inl ⟨_, _, rfl⟩ | exact .inr ⟨_, rfl⟩, by intro a1 a2 w; have e0 : (((((((R 1048588) * 256) + (R 1048589)) * 256) + (R 1048590)) * 256) + (R 1048591)) = (((((R 1048588) * 16777216) + ((R 1048589) * 65536)) + ((R 1048590) * 256)) + (R 1048591)) := (by omega); have e1 : (((((((R 1048592) * 256) + (R 1048593)) * 256) + (R 1048594)) * 256) + (R 1048595)) = (((((R 1048592) * 16777216) + ((R 1048593) * 65536)) + ((R 1048594) * 256)) + (R 1048595)) := (by omega); exact eqFlow _ _ _ _ _ _ _ _ _ _ (by omega) (by omega) (by omega) (by omega) (by omega) a1 a2 w⟩
def qfRows398 : Ent := .bin .and (.chan (some 3)) (.int .i64 15) (.int .i64 13)
theorem qfRows398_ok (R : Nat → Int) (hR : ∀ j, 0 ≤ R j ∧ R j ≤ 255) (n0 : Nat) (hb : qfRowB n0) (hc : ((R 1048576) % 16) = 13) : @EntOK (qfRowV R hR n0) Try.prog qfRows398 := by
  letI : Env := qfRowV R hR n0
  have rb1048576 := hR 1048576; exact entAndI (k := .i64) (a := (R 1048576)) (b := 15) (c := 13) rfl rfl (by rw [show band .i64 (R 1048576) 15 = ((R 1048576) % 16) from (by exact mask_i64 (R 1048576) 4 15 16 (by decide) (by decide) (by decide))]; omega)
def qfRows399 : Ent := .bin .gtr (.int .i64 32) (.chan (some 35)) (.bool true)
theorem qfRows399_ok (R : Nat → Int) (hR : ∀ j, 0 ≤ R j ∧ R j ≤ 255) (n0 : Nat) (hb : qfRowB n0) (hc : 32 > ((n0 : Int) - 20)) : @EntOK (qfRowV R hR n0) Try.prog qfRows399 := by
  letI : Env := qfRowV R hR n0
  exact entCmp (k := .i64) (a := 32) (b := ((n0 : Int) - 20)) rfl rfl (by show some (decide ((32 : Int) > ((n0 : Int) - 20))) = some true; rw [decide_eq_true (by omega)])
def qfRows400 : Ent := .bin .rem (.chan (some 1048576)) (.int .u8 16) (.int .u8 13)
theorem qfRows400_ok (R : Nat → Int) (hR : ∀ j, 0 ≤ R j ∧ R j ≤ 255) (n0 : Nat) (hb : qfRowB n0) (hc : ((R 1048576) % 16) = 13) : @EntOK (qfRowV R hR n0) Try.prog qfRows400 := by
  letI : Env := qfRowV R hR n0
  have rb1048576 := hR 1048576; exact entRemI (k := .u8) (a := (R 1048576)) (b := 16) (c := 13) rfl rfl (by omega) (by rw [Int.tmod_eq_emod_of_nonneg (by omega)]; omega)
def qfRows401 : Ent := .bin .gtr (.int .i64 52) (.chan (some 0)) (.bool true)
theorem qfRows401_ok (R : Nat → Int) (hR : ∀ j, 0 ≤ R j ∧ R j ≤ 255) (n0 : Nat) (hb : qfRowB n0) (hc : 52 > (n0 : Int)) : @EntOK (qfRowV R hR n0) Try.prog qfRows401 := by
  letI : Env := qfRowV R hR n0
  exact entCmp (k := .i64) (a := 52) (b := (n0 : Int)) rfl rfl (by show some (decide ((52 : Int) > (n0 : Int))) = some true; rw [decide_eq_true (by omega)])
def qfRows402 : Ent := .bin .gtr (.int .i64 32) (.chan (some 35)) (.bool false)
theorem qfRows402_ok (R : Nat → Int) (hR : ∀ j, 0 ≤ R j ∧ R j ≤ 255) (n0 : Nat) (hb : qfRowB n0) (hc : ¬ (32 > ((n0 : Int) - 20))) : @EntOK (qfRowV R hR n0) Try.prog qfRows402 := by
  letI : Env := qfRowV R hR n0
  exact entCmp (k := .i64) (a := 32) (b := ((n0 : Int) - 20)) rfl rfl (by show some (decide ((32 : Int) > ((n0 : Int) - 20))) = some false; rw [decide_eq_false (by omega)])
def qfRows403 : Ent := .bin .gtr (.int .i64 0) (.chan (some 196)) (.bool false)
theorem qfRows403_ok (R : Nat → Int) (hR : ∀ j, 0 ≤ R j ∧ R j ≤ 255) (n0 : Nat) (hb : qfRowB n0) (hc : ¬ (0 > ((n0 : Int) - 52))) : @EntOK (qfRowV R hR n0) Try.prog qfRows403 := by
  letI : Env := qfRowV R hR n0
  exact entCmp (k := .i64) (a := 0) (b := ((n0 : Int) - 52)) rfl rfl (by show some (decide ((0 : Int) > ((n0 : Int) - 52))) = some false; rw [decide_eq_false (by omega)])
def qfRows404 : Ent := .bin .geq (.chan (some 196)) (.int .i64 4) (.bool false)
theorem qfRows404_ok (R : Nat → Int) (hR : ∀ j, 0 ≤ R j ∧ R j ≤ 255) (n0 : Nat) (hb : qfRowB n0) (hc : ¬ (((n0 : Int) - 52) ≥ 4)) : @EntOK (qfRowV R hR n0) Try.prog qfRows404 := by
  letI : Env := qfRowV R hR n0
  exact entCmp (k := .i64) (a := ((n0 : Int) - 52)) (b := 4) rfl rfl (by show some (decide ((((n0 : Int) - 52) : Int) ≥ 4)) = some false; rw [decide_eq_false (by omega)])
def qfRows405 : Ent := .bin .gtr (.int .i64 52) (.chan (some 0)) (.bool false)
theorem qfRows405_ok (R : Nat → Int) (hR : ∀ j, 0 ≤ R j ∧ R j ≤ 255) (n0 : Nat) (hb : qfRowB n0) (hc : ¬ (52 > (n0 : Int))) : @EntOK (qfRowV R hR n0) Try.prog qfRows405 := by
  letI : Env := qfRowV R hR n0
  exact entCmp (k := .i64) (a := 52) (b := (n0 : Int)) rfl rfl (by show some (decide ((52 : Int) > (n0 : Int))) = some false; rw [decide_eq_false (by omega)])
def qfRows406 : Ent := .bin .geq (.chan (some 0)) (.int .i64 56) (.bool false)
theorem qfRows406_ok (R : Nat → Int) (hR : ∀ j, 0 ≤ R j ∧ R j ≤ 255) (n0 : Nat) (hb : qfRowB n0) (hc : ¬ ((n0 : Int) ≥ 56)) : @EntOK (qfRowV R hR n0) Try.prog qfRows406 := by
  letI : Env := qfRowV R hR n0
  exact entCmp (k := .i64) (a := (n0 : Int)) (b := 56) rfl rfl (by show some (decide (((n0 : Int) : Int) ≥ 56)) = some false; rw [decide_eq_false (by omega)])
def qfRows407 : Ent := .bin .geq (.chan (some 196)) (.int .i64 4) (.bool true)
theorem qfRows407_ok (R : Nat → Int) (hR : ∀ j, 0 ≤ R j ∧ R j ≤ 255) (n0 : Nat) (hb : qfRowB n0) (hc : ((n0 : Int) - 52) ≥ 4) : @EntOK (qfRowV R hR n0) Try.prog qfRows407 := by
  letI : Env := qfRowV R hR n0
  exact entCmp (k := .i64) (a := ((n0 : Int) - 52)) (b := 4) rfl rfl (by show some (decide ((((n0 : Int) - 52) : Int) ≥ 4)) = some true; rw [decide_eq_true (by omega)])
def qfRows408 : Ent := .bin .gtr (.int .i64 2) (.chan (some 196)) (.bool false)
theorem qfRows408_ok (R : Nat → Int) (hR : ∀ j, 0 ≤ R j ∧ R j ≤ 255) (n0 : Nat) (hb : qfRowB n0) (hc : ¬ ((2 : Int) > ((n0 : Int) - 52))) : @EntOK (qfRowV R hR n0) Try.prog qfRows408 := by
  letI : Env := qfRowV R hR n0
  exact entCmp (k := .i64) (a := 2) (b := ((n0 : Int) - 52)) rfl rfl (by show some (decide ((2 : Int) > ((n0 : Int) - 52))) = some false; rw [decide_eq_false (by omega)])
def qfRows409 : Ent := .slen 0 109 (.chan (some 208))
theorem qfRows409_ok (R : Nat → Int) (hR : ∀ j, 0 ≤ R j ∧ R j ≤ 255) (n0 : Nat) (hb : qfRowB n0) (hc : 54 ≤ n0) : @EntOK (qfRowV R hR n0) Try.prog qfRows409 := by
  letI : Env := qfRowV R hR n0
  exact entSlen (n := n0) (j := 208) (c := ((n0 : Int) - 54)) rfl rfl (by simp; try omega) (by first | exact .inl rfl | (right; omega))
def qfRows410 : Ent := .conv .u32 (.chan (some 1048628)) (.chan (some 209))
theorem qfRows410_ok (R : Nat → Int) (hR : ∀ j, 0 ≤ R j ∧ R j ≤ 255) (n0 : Nat) (hb : qfRowB n0) : @EntOK (qfRowV R hR n0) Try.prog qfRows410 := by
  letI : Env := qfRowV R hR n0
  have rb1048628 := hR 1048628; exact entConvV (k := .u32) (l := .u8) (a := (R 1048628)) (c := (R 1048628)) rfl rfl (by rw [IntWalk.u32_in _ (by omega)])
def qfRows411 : Ent := .bin .or (.int .u32 0) (.chan (some 209)) (.chan (some 209))
theorem qfRows411_ok (R : Nat → Int) (hR : ∀ j, 0 ≤ R j ∧ R j ≤ 255) (n0 : Nat) (hb : qfRowB n0) : @EntOK (qfRowV R hR n0) Try.prog qfRows411 := by
  letI : Env := qfRowV R hR n0
  have rb1048628 := hR 1048628; exact entOrV (k := .u32) (a := 0) (b := (R 1048628)) (c := (R 1048628)) rfl rfl rfl (by have h := join_u32 0 (R 1048628) 8 256 (by decide) (by omega) (by omega) (by omega) (by omega); simpa using h)
def qfRows412 : Ent := .bin .shl (.chan (some 209)) (.int .u64 8) (.chan (some 210))
theorem qfRows412_ok (R : Nat → Int) (hR : ∀ j, 0 ≤ R j ∧ R j ≤ 255) (n0 : Nat) (hb : qfRowB n0) : @EntOK (qfRowV R hR n0) Try.prog qfRows412 := by
  letI : Env := qfRowV R hR n0
  have rb1048628 := hR 1048628; exact entShlV (k := .u32) (l := .u64) (a := (R 1048628)) (c := ((R 1048628) * 256)) (s := 8) rfl rfl rfl (by decide) (by show IntKind.u32.wrap ((R 1048628) * 2 ^ 8) = ((R 1048628) * 256); rw [show ((2 : Int) ^ 8) = 256 from by decide, IntWalk.u32_in _ (by omega)])
def qfRows413 : Ent := .conv .u32 (.chan (some 1048629)) (.chan (some 211))
theorem qfRows413_ok (R : Nat → Int) (hR : ∀ j, 0 ≤ R j ∧ R j ≤ 255) (n0 : Nat) (hb : qfRowB n0) : @EntOK (qfRowV R hR n0) Try.prog qfRows413 := by
  letI : Env := qfRowV R hR n0
  have rb1048629 := hR 1048629; exact entConvV (k := .u32) (l := .u8) (a := (R 1048629)) (c := (R 1048629)) rfl rfl (by rw [IntWalk.u32_in _ (by omega)])
def qfRows414 : Ent := .bin .or (.chan (some 210)) (.chan (some 211)) (.chan (some 212))
theorem qfRows414_ok (R : Nat → Int) (hR : ∀ j, 0 ≤ R j ∧ R j ≤ 255) (n0 : Nat) (hb : qfRowB n0) : @EntOK (qfRowV R hR n0) Try.prog qfRows414 := by
  letI : Env := qfRowV R hR n0
  have rb1048628 := hR 1048628; have rb1048629 := hR 1048629; exact entOrV (k := .u32) (a := ((R 1048628) * 256)) (b := (R 1048629)) (c := (((R 1048628) * 256) + (R 1048629))) rfl rfl rfl (by exact join_u32 (R 1048628) (R 1048629) 8 256 (by decide) (by omega) (by omega) (by omega) (by omega))
def qfRows415 : Ent := .conv .i64 (.chan (some 212)) (.chan (some 213))
theorem qfRows415_ok (R : Nat → Int) (hR : ∀ j, 0 ≤ R j ∧ R j ≤ 255) (n0 : Nat) (hb : qfRowB n0) : @EntOK (qfRowV R hR n0) Try.prog qfRows415 := by
  letI : Env := qfRowV R hR n0
  have rb1048628 := hR 1048628; have rb1048629 := hR 1048629; exact entConvV (k := .i64) (l := .u32) (a := (((R 1048628) * 256) + (R 1048629))) (c := (((R 1048628) * 256) + (R 1048629))) rfl rfl (by rw [IntWalk.i64_in _ (by omega)])
def qfRows416 : Ent := .bin .gtr (.int .i64 2) (.chan (some 208)) (.bool false)
theorem qfRows416_ok (R : Nat → Int) (hR : ∀ j, 0 ≤ R j ∧ R j ≤ 255) (n0 : Nat) (hb : qfRowB n0) (hc : ¬ (2 > ((n0 : Int) - 54))) : @EntOK (qfRowV R hR n0) Try.prog qfRows416 := by
  letI : Env := qfRowV R hR n0
  exact entCmp (k := .i64) (a := 2) (b := ((n0 : Int) - 54)) rfl rfl (by show some (decide ((2 : Int) > ((n0 : Int) - 54))) = some false; rw [decide_eq_false (by omega)])
def qfRows417 : Ent := .slen 0 113 (.chan (some 214))
theorem qfRows417_ok (R : Nat → Int) (hR : ∀ j, 0 ≤ R j ∧ R j ≤ 255) (n0 : Nat) (hb : qfRowB n0) (hc : 56 ≤ n0) : @EntOK (qfRowV R hR n0) Try.prog qfRows417 := by
  letI : Env := qfRowV R hR n0
  exact entSlen (n := n0) (j := 214) (c := ((n0 : Int) - 56)) rfl rfl (by simp; try omega) (by first | exact .inl rfl | (right; omega))
def qfRows418 : Ent := .conv .u32 (.chan (some 1048630)) (.chan (some 215))
theorem qfRows418_ok (R : Nat → Int) (hR : ∀ j, 0 ≤ R j ∧ R j ≤ 255) (n0 : Nat) (hb : qfRowB n0) : @EntOK (qfRowV R hR n0) Try.prog qfRows418 := by
  letI : Env := qfRowV R hR n0
  have rb1048630 := hR 1048630; exact entConvV (k := .u32) (l := .u8) (a := (R 1048630)) (c := (R 1048630)) rfl rfl (by rw [IntWalk.u32_in _ (by omega)])
def qfRows419 : Ent := .bin .or (.int .u32 0) (.chan (some 215)) (.chan (some 215))
theorem qfRows419_ok (R : Nat → Int) (hR : ∀ j, 0 ≤ R j ∧ R j ≤ 255) (n0 : Nat) (hb : qfRowB n0) : @EntOK (qfRowV R hR n0) Try.prog qfRows419 := by
  letI : Env := qfRowV R hR n0
  have rb1048630 := hR 1048630; exact entOrV (k := .u32) (a := 0) (b := (R 1048630)) (c := (R 1048630)) rfl rfl rfl (by have h := join_u32 0 (R 1048630) 8 256 (by decide) (by omega) (by omega) (by omega) (by omega); simpa using h)
def qfRows420 : Ent := .bin .shl (.chan (some 215)) (.int .u64 8) (.chan (some 216))
theorem qfRows420_ok (R : Nat → Int) (hR : ∀ j, 0 ≤ R j ∧ R j ≤ 255) (n0 : Nat) (hb : qfRowB n0) : @EntOK (qfRowV R hR n0) Try.prog qfRows420 := by
  letI : Env := qfRowV R hR n0
  have rb1048630 := hR 1048630; exact entShlV (k := .u32) (l := .u64) (a := (R 1048630)) (c := ((R 1048630) * 256)) (s := 8) rfl rfl rfl (by decide) (by show IntKind.u32.wrap ((R 1048630) * 2 ^ 8) = ((R 1048630) * 256); rw [show ((2 : Int) ^ 8) = 256 from by decide, IntWalk.u32_in _ (by omega)])
def qfRows421 : Ent := .conv .u32 (.chan (some 1048631)) (.chan (some 217))
theorem qfRows421_ok (R : Nat → Int) (hR : ∀ j, 0 ≤ R j ∧ R j ≤ 255) (n0 : Nat) (hb : qfRowB n0) : @EntOK (qfRowV R hR n0) Try.prog qfRows421 := by
  letI : Env := qfRowV R hR n0
  have rb1048631 := hR 1048631; exact entConvV (k := .u32) (l := .u8) (a := (R 1048631)) (c := (R 1048631)) rfl rfl (by rw [IntWalk.u32_in _ (by omega)])
def qfRows422 : Ent := .bin .or (.chan (some 216)) (.chan (some 217)) (.chan (some 218))
theorem qfRows422_ok (R : Nat → Int) (hR : ∀ j, 0 ≤ R j ∧ R j ≤ 255) (n0 : Nat) (hb : qfRowB n0) : @EntOK (qfRowV R hR n0) Try.prog qfRows422 := by
  letI : Env := qfRowV R hR n0
  have rb1048630 := hR 1048630; have rb1048631 := hR 1048631; exact entOrV (k := .u32) (a := ((R 1048630) * 256)) (b := (R 1048631)) (c := (((R 1048630) * 256) + (R 1048631))) rfl rfl rfl (by exact join_u32 (R 1048630) (R 1048631) 8 256 (by decide) (by omega) (by omega) (by omega) (by omega))
def qfRows423 : Ent := .conv .i64 (.chan (some 218)) (.chan (some 219))
theorem qfRows423_ok (R : Nat → Int) (hR : ∀ j, 0 ≤ R j ∧ R j ≤ 255) (n0 : Nat) (hb : qfRowB n0) : @EntOK (qfRowV R hR n0) Try.prog qfRows423 := by
  letI : Env := qfRowV R hR n0
  have rb1048630 := hR 1048630; have rb1048631 := hR 1048631; exact entConvV (k := .i64) (l := .u32) (a := (((R 1048630) * 256) + (R 1048631))) (c := (((R 1048630) * 256) + (R 1048631))) rfl rfl (by rw [IntWalk.i64_in _ (by omega)])
def qfRows424 : Ent := .bin .geq (.chan (some 0)) (.int .i64 56) (.bool true)
theorem qfRows424_ok (R : Nat → Int) (hR : ∀ j, 0 ≤ R j ∧ R j ≤ 255) (n0 : Nat) (hb : qfRowB n0) (hc : (n0 : Int) ≥ 56) : @EntOK (qfRowV R hR n0) Try.prog qfRows424 := by
  letI : Env := qfRowV R hR n0
  exact entCmp (k := .i64) (a := (n0 : Int)) (b := 56) rfl rfl (by show some (decide (((n0 : Int) : Int) ≥ 56)) = some true; rw [decide_eq_true (by omega)])
def qfRows425 : Ent := .conv .i64 (.chan (some 1048628)) (.chan (some 220))
theorem qfRows425_ok (R : Nat → Int) (hR : ∀ j, 0 ≤ R j ∧ R j ≤ 255) (n0 : Nat) (hb : qfRowB n0) : @EntOK (qfRowV R hR n0) Try.prog qfRows425 := by
  letI : Env := qfRowV R hR n0
  have rb1048628 := hR 1048628; exact entConvV (k := .i64) (l := .u8) (a := (R 1048628)) (c := (R 1048628)) rfl rfl (by rw [IntWalk.i64_in _ (by omega)])
def qfRows426 : Ent := .bin .shl (.chan (some 220)) (.int .u64 8) (.chan (some 221))
theorem qfRows426_ok (R : Nat → Int) (hR : ∀ j, 0 ≤ R j ∧ R j ≤ 255) (n0 : Nat) (hb : qfRowB n0) : @EntOK (qfRowV R hR n0) Try.prog qfRows426 := by
  letI : Env := qfRowV R hR n0
  have rb1048628 := hR 1048628; exact entShlV (k := .i64) (l := .u64) (a := (R 1048628)) (c := ((R 1048628) * 256)) (s := 8) rfl rfl rfl (by decide) (by show IntKind.i64.wrap ((R 1048628) * 2 ^ 8) = ((R 1048628) * 256); rw [show ((2 : Int) ^ 8) = 256 from by decide, IntWalk.i64_in _ (by omega)])
def qfRows427 : Ent := .conv .i64 (.chan (some 1048629)) (.chan (some 222))
theorem qfRows427_ok (R : Nat → Int) (hR : ∀ j, 0 ≤ R j ∧ R j ≤ 255) (n0 : Nat) (hb : qfRowB n0) : @EntOK (qfRowV R hR n0) Try.prog qfRows427 := by
  letI : Env := qfRowV R hR n0
  have rb1048629 := hR 1048629; exact entConvV (k := .i64) (l := .u8) (a := (R 1048629)) (c := (R 1048629)) rfl rfl (by rw [IntWalk.i64_in _ (by omega)])
def qfRows428 : Ent := .bin .or (.chan (some 221)) (.chan (some 222)) (.chan (some 213))
theorem qfRows428_ok (R : Nat → Int) (hR : ∀ j, 0 ≤ R j ∧ R j ≤ 255) (n0 : Nat) (hb : qfRowB n0) : @EntOK (qfRowV R hR n0) Try.prog qfRows428 := by
  letI : Env := qfRowV R hR n0
  have rb1048628 := hR 1048628; have rb1048629 := hR 1048629; exact entOrV (k := .i64) (a := ((R 1048628) * 256)) (b := (R 1048629)) (c := (((R 1048628) * 256) + (R 1048629))) rfl rfl rfl (by exact join_i64 (R 1048628) (R 1048629) 8 256 (by decide) (by omega) (by omega) (by omega) (by omega))
def qfRows429 : Ent := .conv .i64 (.chan (some 1048630)) (.chan (some 223))
theorem qfRows429_ok (R : Nat → Int) (hR : ∀ j, 0 ≤ R j ∧ R j ≤ 255) (n0 : Nat) (hb : qfRowB n0) : @EntOK (qfRowV R hR n0) Try.prog qfRows429 := by
  letI : Env := qfRowV R hR n0
  have rb1048630 := hR 1048630; exact entConvV (k := .i64) (l := .u8) (a := (R 1048630)) (c := (R 1048630)) rfl rfl (by rw [IntWalk.i64_in _ (by omega)])
def qfRows430 : Ent := .bin .shl (.chan (some 223)) (.int .u64 8) (.chan (some 224))
theorem qfRows430_ok (R : Nat → Int) (hR : ∀ j, 0 ≤ R j ∧ R j ≤ 255) (n0 : Nat) (hb : qfRowB n0) : @EntOK (qfRowV R hR n0) Try.prog qfRows430 := by
  letI : Env := qfRowV R hR n0
  have rb1048630 := hR 1048630; exact entShlV (k := .i64) (l := .u64) (a := (R 1048630)) (c := ((R 1048630) * 256)) (s := 8) rfl rfl rfl (by decide) (by show IntKind.i64.wrap ((R 1048630) * 2 ^ 8) = ((R 1048630) * 256); rw [show ((2 : Int) ^ 8) = 256 from by decide, IntWalk.i64_in _ (by omega)])
def qfRows431 : Ent := .conv .i64 (.chan (some 1048631)) (.chan (some 225))
theorem qfRows431_ok (R : Nat → Int) (hR : ∀ j, 0 ≤ R j ∧ R j ≤ 255) (n0 : Nat) (hb : qfRowB n0) : @EntOK (qfRowV R hR n0) Try.prog qfRows431 := by
  letI : Env := qfRowV R hR n0
  have rb1048631 := hR 1048631; exact entConvV (k := .i64) (l := .u8) (a := (R 1048631)) (c := (R 1048631)) rfl rfl (by rw [IntWalk.i64_in _ (by omega)])
def qfRows432 : Ent := .bin .or (.chan (some 224)) (.chan (some 225)) (.chan (some 219))
theorem qfRows432_ok (R : Nat → Int) (hR : ∀ j, 0 ≤ R j ∧ R j ≤ 255) (n0 : Nat) (hb : qfRowB n0) : @EntOK (qfRowV R hR n0) Try.prog qfRows432 := by
  letI : Env := qfRowV R hR n0
  have rb1048630 := hR 1048630; have rb1048631 := hR 1048631; exact entOrV (k := .i64) (a := ((R 1048630) * 256)) (b := (R 1048631)) (c := (((R 1048630) * 256) + (R 1048631))) rfl rfl rfl (by exact join_i64 (R 1048630) (R 1048631) 8 256 (by decide) (by omega) (by omega) (by omega) (by omega))
def qfRows433 : Ent := .eqs false 50 [.chan (some 17), .chan (some 34), .chan (some 213), .chan (some 45), .chan (some 219)] [.chan (some 17), .chan (some 54), .chan (some 213), .chan (some 60), .chan (some 219)] true
theorem qfRows433_ok (R : Nat → Int) (hR : ∀ j, 0 ≤ R j ∧ R j ≤ 255) (n0 : Nat) (hb : qfRowB n0) : @EntOK (qfRowV R hR n0) Try.prog qfRows433 := by
  letI : Env := qfRowV R hR n0
  have rb1048588 := hR 1048588; have rb1048589 := hR 1048589; have rb1048590 := hR 1048590; have rb1048591 := hR 1048591; have rb1048592 := hR 1048592; have rb1048593 := hR 1048593; have rb1048594 := hR 1048594; have rb1048595 := hR 1048595; exact ⟨by intro v hv; simp only [List.mem_cons, List.not_mem_nil, or_false] at hv; rcases hv with rfl | rfl | rfl | rfl | rfl <;> first | exact .inl ⟨_, _, rfl⟩ | exact .inr ⟨_, rfl⟩, by intro v hv; simp only [List.mem_cons, List.not_mem_nil, or_false] at hv; rcases hv with rfl | rfl | rfl | rfl | rfl <;> first | exact .inl ⟨_, _, rfl⟩ | exact .inr ⟨_, rfl⟩, by intro a1 a2 w; have e0 : (((((((R 1048588) * 256) + (R 1048589)) * 256) + (R 1048590)) * 256) + (R 1048591)) = (((((R 1048588) * 16777216) + ((R 1048589) * 65536)) + ((R 1048590) * 256)) + (R 1048591)) := (by omega); have e1 : (((((((R 1048592) * 256) + (R 1048593)) * 256) + (R 1048594)) * 256) + (R 1048595)) = (((((R 1048592) * 16777216) + ((R 1048593) * 65536)) + ((R 1048594) * 256)) + (R 1048595)) := (by omega); exact eqFlow _ _ _ _ _ _ _ _ _ _ (by omega) (by omega) (by omega) (by omega) (by omega) a1 a2 w⟩
def qfRows434 : Ent := .bin .and (.chan (some 3)) (.int .i64 15) (.int .i64 14)
theorem qfRows434_ok (R : Nat → Int) (hR : ∀ j, 0 ≤ R j ∧ R j ≤ 255) (n0 : Nat) (hb : qfRowB n0) (hc : ((R 1048576) % 16) = 14) : @EntOK (qfRowV R hR n0) Try.prog qfRows434 := by
  letI : Env := qfRowV R hR n0
  have rb1048576 := hR 1048576; exact entAndI (k := .i64) (a := (R 1048576)) (b := 15) (c := 14) rfl rfl (by rw [show band .i64 (R 1048576) 15 = ((R 1048576) % 16) from (by exact mask_i64 (R 1048576) 4 15 16 (by decide) (by decide) (by decide))]; omega)
def qfRows435 : Ent := .bin .gtr (.int .i64 36) (.chan (some 35)) (.bool true)
theorem qfRows435_ok (R : Nat → Int) (hR : ∀ j, 0 ≤ R j ∧ R j ≤ 255) (n0 : Nat) (hb : qfRowB n0) (hc : 36 > ((n0 : Int) - 20)) : @EntOK (qfRowV R hR n0) Try.prog qfRows435 := by
  letI : Env := qfRowV R hR n0
  exact entCmp (k := .i64) (a := 36) (b := ((n0 : Int) - 20)) rfl rfl (by show some (decide ((36 : Int) > ((n0 : Int) - 20))) = some true; rw [decide_eq_true (by omega)])
def qfRows436 : Ent := .bin .rem (.chan (some 1048576)) (.int .u8 16) (.int .u8 14)
theorem qfRows436_ok (R : Nat → Int) (hR : ∀ j, 0 ≤ R j ∧ R j ≤ 255) (n0 : Nat) (hb : qfRowB n0) (hc : ((R 1048576) % 16) = 14) : @EntOK (qfRowV R hR n0) Try.prog qfRows436 := by
  letI : Env := qfRowV R hR n0
  have rb1048576 := hR 1048576; exact entRemI (k := .u8) (a := (R 1048576)) (b := 16) (c := 14) rfl rfl (by omega) (by rw [Int.tmod_eq_emod_of_nonneg (by omega)]; omega)
def qfRows437 : Ent := .bin .gtr (.int .i64 56) (.chan (some 0)) (.bool true)
theorem qfRows437_ok (R : Nat → Int) (hR : ∀ j, 0 ≤ R j ∧ R j ≤ 255) (n0 : Nat) (hb : qfRowB n0) (hc : 56 > (n0 : Int)) : @EntOK (qfRowV R hR n0) Try.prog qfRows437 := by
  letI : Env := qfRowV R hR n0
  exact entCmp (k := .i64) (a := 56) (b := (n0 : Int)) rfl rfl (by show some (decide ((56 : Int) > (n0 : Int))) = some true; rw [decide_eq_true (by omega)])
def qfRows438 : Ent := .bin .gtr (.int .i64 36) (.chan (some 35)) (.bool false)
theorem qfRows438_ok (R : Nat → Int) (hR : ∀ j, 0 ≤ R j ∧ R j ≤ 255) (n0 : Nat) (hb : qfRowB n0) (hc : ¬ (36 > ((n0 : Int) - 20))) : @EntOK (qfRowV R hR n0) Try.prog qfRows438 := by
  letI : Env := qfRowV R hR n0
  exact entCmp (k := .i64) (a := 36) (b := ((n0 : Int) - 20)) rfl rfl (by show some (decide ((36 : Int) > ((n0 : Int) - 20))) = some false; rw [decide_eq_false (by omega)])
def qfRows439 : Ent := .bin .gtr (.int .i64 0) (.chan (some 214)) (.bool false)
theorem qfRows439_ok (R : Nat → Int) (hR : ∀ j, 0 ≤ R j ∧ R j ≤ 255) (n0 : Nat) (hb : qfRowB n0) (hc : ¬ (0 > ((n0 : Int) - 56))) : @EntOK (qfRowV R hR n0) Try.prog qfRows439 := by
  letI : Env := qfRowV R hR n0
  exact entCmp (k := .i64) (a := 0) (b := ((n0 : Int) - 56)) rfl rfl (by show some (decide ((0 : Int) > ((n0 : Int) - 56))) = some false; rw [decide_eq_false (by omega)])
def qfRows440 : Ent := .bin .geq (.chan (some 214)) (.int .i64 4) (.bool false)
theorem qfRows440_ok (R : Nat → Int) (hR : ∀ j, 0 ≤ R j ∧ R j ≤ 255) (n0 : Nat) (hb : qfRowB n0) (hc : ¬ (((n0 : Int) - 56) ≥ 4)) : @EntOK (qfRowV R hR n0) Try.prog qfRows440 := by
  letI : Env := qfRowV R hR n0
  exact entCmp (k := .i64) (a := ((n0 : Int) - 56)) (b := 4) rfl rfl (by show some (decide ((((n0 : Int) - 56) : Int) ≥ 4)) = some false; rw [decide_eq_false (by omega)])
def qfRows441 : Ent := .bin .gtr (.int .i64 56) (.chan (some 0)) (.bool false)
theorem qfRows441_ok (R : Nat → Int) (hR : ∀ j, 0 ≤ R j ∧ R j ≤ 255) (n0 : Nat) (hb : qfRowB n0) (hc : ¬ (56 > (n0 : Int))) : @EntOK (qfRowV R hR n0) Try.prog qfRows441 := by
  letI : Env := qfRowV R hR n0
  exact entCmp (k := .i64) (a := 56) (b := (n0 : Int)) rfl rfl (by show some (decide ((56 : Int) > (n0 : Int))) = some false; rw [decide_eq_false (by omega)])
def qfRows442 : Ent := .bin .geq (.chan (some 0)) (.int .i64 60) (.bool false)
theorem qfRows442_ok (R : Nat → Int) (hR : ∀ j, 0 ≤ R j ∧ R j ≤ 255) (n0 : Nat) (hb : qfRowB n0) (hc : ¬ ((n0 : Int) ≥ 60)) : @EntOK (qfRowV R hR n0) Try.prog qfRows442 := by
  letI : Env := qfRowV R hR n0
  exact entCmp (k := .i64) (a := (n0 : Int)) (b := 60) rfl rfl (by show some (decide (((n0 : Int) : Int) ≥ 60)) = some false; rw [decide_eq_false (by omega)])
def qfRows443 : Ent := .bin .geq (.chan (some 214)) (.int .i64 4) (.bool true)
theorem qfRows443_ok (R : Nat → Int) (hR : ∀ j, 0 ≤ R j ∧ R j ≤ 255) (n0 : Nat) (hb : qfRowB n0) (hc : ((n0 : Int) - 56) ≥ 4) : @EntOK (qfRowV R hR n0) Try.prog qfRows443 := by
  letI : Env := qfRowV R hR n0
  exact entCmp (k := .i64) (a := ((n0 : Int) - 56)) (b := 4) rfl rfl (by show some (decide ((((n0 : Int) - 56) : Int) ≥ 4)) = some true; rw [decide_eq_true (by omega)])
def qfRows444 : Ent := .bin .gtr (.int .i64 2) (.chan (some 214)) (.bool false)
theorem qfRows444_ok (R : Nat → Int) (hR : ∀ j, 0 ≤ R j ∧ R j ≤ 255) (n0 : Nat) (hb : qfRowB n0) (hc : ¬ ((2 : Int) > ((n0 : Int) - 56))) : @EntOK (qfRowV R hR n0) Try.prog qfRows444 := by
  letI : Env := qfRowV R hR n0
  exact entCmp (k := .i64) (a := 2) (b := ((n0 : Int) - 56)) rfl rfl (by show some (decide ((2 : Int) > ((n0 : Int) - 56))) = some false; rw [decide_eq_false (by omega)])
def qfRows445 : Ent := .slen 0 117 (.chan (some 226))
theorem qfRows445_ok (R : Nat → Int) (hR : ∀ j, 0 ≤ R j ∧ R j ≤ 255) (n0 : Nat) (hb : qfRowB n0) (hc : 58 ≤ n0) : @EntOK (qfRowV R hR n0) Try.prog qfRows445 := by
  letI : Env := qfRowV R hR n0
  exact entSlen (n := n0) (j := 226) (c := ((n0 : Int) - 58)) rfl rfl (by simp; try omega) (by first | exact .inl rfl | (right; omega))
def qfRows446 : Ent := .conv .u32 (.chan (some 1048632)) (.chan (some 227))
theorem qfRows446_ok (R : Nat → Int) (hR : ∀ j, 0 ≤ R j ∧ R j ≤ 255) (n0 : Nat) (hb : qfRowB n0) : @EntOK (qfRowV R hR n0) Try.prog qfRows446 := by
  letI : Env := qfRowV R hR n0
  have rb1048632 := hR 1048632; exact entConvV (k := .u32) (l := .u8) (a := (R 1048632)) (c := (R 1048632)) rfl rfl (by rw [IntWalk.u32_in _ (by omega)])
def qfRows447 : Ent := .bin .or (.int .u32 0) (.chan (some 227)) (.chan (some 227))
theorem qfRows447_ok (R : Nat → Int) (hR : ∀ j, 0 ≤ R j ∧ R j ≤ 255) (n0 : Nat) (hb : qfRowB n0) : @EntOK (qfRowV R hR n0) Try.prog qfRows447 := by
  letI : Env := qfRowV R hR n0
  have rb1048632 := hR 1048632; exact entOrV (k := .u32) (a := 0) (b := (R 1048632)) (c := (R 1048632)) rfl rfl rfl (by have h := join_u32 0 (R 1048632) 8 256 (by decide) (by omega) (by omega) (by omega) (by omega); simpa using h)
def qfRows448 : Ent := .bin .shl (.chan (some 227)) (.int .u64 8) (.chan (some 228))
theorem qfRows448_ok (R : Nat → Int) (hR : ∀ j, 0 ≤ R j ∧ R j ≤ 255) (n0 : Nat) (hb : qfRowB n0) : @EntOK (qfRowV R hR n0) Try.prog qfRows448 := by
  letI : Env := qfRowV R hR n0
  have rb1048632 := hR 1048632; exact entShlV (k := .u32) (l := .u64) (a := (R 1048632)) (c := ((R 1048632) * 256)) (s := 8) rfl rfl rfl (by decide) (by show IntKind.u32.wrap ((R 1048632) * 2 ^ 8) = ((R 1048632) * 256); rw [show ((2 : Int) ^ 8) = 256 from by decide, IntWalk.u32_in _ (by omega)])
def qfRows449 : Ent := .conv .u32 (.chan (some 1048633)) (.chan (some 229))
theorem qfRows449_ok (R : Nat → Int) (hR : ∀ j, 0 ≤ R j ∧ R j ≤ 255) (n0 : Nat) (hb : qfRowB n0) : @EntOK (qfRowV R hR n0) Try.prog qfRows449 := by
  letI : Env := qfRowV R hR n0
  have rb1048633 := hR 1048633; exact entConvV (k := .u32) (l := .u8) (a := (R 1048633)) (c := (R 1048633)) rfl rfl (by rw [IntWalk.u32_in _ (by omega)])
def qfRows450 : Ent := .bin .or (.chan (some 228)) (.chan (some 229)) (.chan (some 230))
theorem qfRows450_ok (R : Nat → Int) (hR : ∀ j, 0 ≤ R j ∧ R j ≤ 255) (n0 : Nat) (hb : qfRowB n0) : @EntOK (qfRowV R hR n0) Try.prog qfRows450 := by
  letI : Env := qfRowV R hR n0
  have rb1048632 := hR 1048632; have rb1048633 := hR 1048633; exact entOrV (k := .u32) (a := ((R 1048632) * 256)) (b := (R 1048633)) (c := (((R 1048632) * 256) + (R 1048633))) rfl rfl rfl (by exact join_u32 (R 1048632) (R 1048633) 8 256 (by decide) (by omega) (by omega) (by omega) (by omega))
def qfRows451 : Ent := .conv .i64 (.chan (some 230)) (.chan (some 231))
theorem qfRows451_ok (R : Nat → Int) (hR : ∀ j, 0 ≤ R j ∧ R j ≤ 255) (n0 : Nat) (hb : qfRowB n0) : @EntOK (qfRowV R hR n0) Try.prog qfRows451 := by
  letI : Env := qfRowV R hR n0
  have rb1048632 := hR 1048632; have rb1048633 := hR 1048633; exact entConvV (k := .i64) (l := .u32) (a := (((R 1048632) * 256) + (R 1048633))) (c := (((R 1048632) * 256) + (R 1048633))) rfl rfl (by rw [IntWalk.i64_in _ (by omega)])
def qfRows452 : Ent := .bin .gtr (.int .i64 2) (.chan (some 226)) (.bool false)
theorem qfRows452_ok (R : Nat → Int) (hR : ∀ j, 0 ≤ R j ∧ R j ≤ 255) (n0 : Nat) (hb : qfRowB n0) (hc : ¬ (2 > ((n0 : Int) - 58))) : @EntOK (qfRowV R hR n0) Try.prog qfRows452 := by
  letI : Env := qfRowV R hR n0
  exact entCmp (k := .i64) (a := 2) (b := ((n0 : Int) - 58)) rfl rfl (by show some (decide ((2 : Int) > ((n0 : Int) - 58))) = some false; rw [decide_eq_false (by omega)])
def qfRows453 : Ent := .slen 0 121 (.chan (some 232))
theorem qfRows453_ok (R : Nat → Int) (hR : ∀ j, 0 ≤ R j ∧ R j ≤ 255) (n0 : Nat) (hb : qfRowB n0) (hc : 60 ≤ n0) : @EntOK (qfRowV R hR n0) Try.prog qfRows453 := by
  letI : Env := qfRowV R hR n0
  exact entSlen (n := n0) (j := 232) (c := ((n0 : Int) - 60)) rfl rfl (by simp; try omega) (by first | exact .inl rfl | (right; omega))
def qfRows454 : Ent := .conv .u32 (.chan (some 1048634)) (.chan (some 233))
theorem qfRows454_ok (R : Nat → Int) (hR : ∀ j, 0 ≤ R j ∧ R j ≤ 255) (n0 : Nat) (hb : qfRowB n0) : @EntOK (qfRowV R hR n0) Try.prog qfRows454 := by
  letI : Env := qfRowV R hR n0
  have rb1048634 := hR 1048634; exact entConvV (k := .u32) (l := .u8) (a := (R 1048634)) (c := (R 1048634)) rfl rfl (by rw [IntWalk.u32_in _ (by omega)])
def qfRows455 : Ent := .bin .or (.int .u32 0) (.chan (some 233)) (.chan (some 233))
theorem qfRows455_ok (R : Nat → Int) (hR : ∀ j, 0 ≤ R j ∧ R j ≤ 255) (n0 : Nat) (hb : qfRowB n0) : @EntOK (qfRowV R hR n0) Try.prog qfRows455 := by
  letI : Env := qfRowV R hR n0
  have rb1048634 := hR 1048634; exact entOrV (k := .u32) (a := 0) (b := (R 1048634)) (c := (R 1048634)) rfl rfl rfl (by have h := join_u32 0 (R 1048634) 8 256 (by decide) (by omega) (by omega) (by omega) (by omega); simpa using h)
def qfRows456 : Ent := .bin .shl (.chan (some 233)) (.int .u64 8) (.chan (some 234))
theorem qfRows456_ok (R : Nat → Int) (hR : ∀ j, 0 ≤ R j ∧ R j ≤ 255) (n0 : Nat) (hb : qfRowB n0) : @EntOK (qfRowV R hR n0) Try.prog qfRows456 := by
  letI : Env := qfRowV R hR n0
  have rb1048634 := hR 1048634; exact entShlV (k := .u32) (l := .u64) (a := (R 1048634)) (c := ((R 1048634) * 256)) (s := 8) rfl rfl rfl (by decide) (by show IntKind.u32.wrap ((R 1048634) * 2 ^ 8) = ((R 1048634) * 256); rw [show ((2 : Int) ^ 8) = 256 from by decide, IntWalk.u32_in _ (by omega)])
def qfRows457 : Ent := .conv .u32 (.chan (some 1048635)) (.chan (some 235))
theorem qfRows457_ok (R : Nat → Int) (hR : ∀ j, 0 ≤ R j ∧ R j ≤ 255) (n0 : Nat) (hb : qfRowB n0) : @EntOK (qfRowV R hR n0) Try.prog qfRows457 := by
  letI : Env := qfRowV R hR n0
  have rb1048635 := hR 1048635; exact entConvV (k := .u32) (l := .u8) (a := (R 1048635)) (c := (R 1048635)) rfl rfl (by rw [IntWalk.u32_in _ (by omega)])
def qfRows458 : Ent := .bin .or (.chan (some 234)) (.chan (some 235)) (.chan (some 236))
theorem qfRows458_ok (R : Nat → Int) (hR : ∀ j, 0 ≤ R j ∧ R j ≤ 255) (n0 : Nat) (hb : qfRowB n0) : @EntOK (qfRowV R hR n0) Try.prog qfRows458 := by
  letI : Env := qfRowV R hR n0
  have rb1048634 := hR 1048634; have rb1048635 := hR 1048635; exact entOrV (k := .u32) (a := ((R 1048634) * 256)) (b := (R 1048635)) (c := (((R 1048634) * 256) + (R 1048635))) rfl rfl rfl (by exact join_u32 (R 1048634) (R 1048635) 8 256 (by decide) (by omega) (by omega) (by omega) (by omega))
def qfRows459 : Ent := .conv .i64 (.chan (some 236)) (.chan (some 237))
theorem qfRows459_ok (R : Nat → Int) (hR : ∀ j, 0 ≤ R j ∧ R j ≤ 255) (n0 : Nat) (hb : qfRowB n0) : @EntOK (qfRowV R hR n0) Try.prog qfRows459 := by
  letI : Env := qfRowV R hR n0
  have rb1048634 := hR 1048634; have rb1048635 := hR 1048635; exact entConvV (k := .i64) (l := .u32) (a := (((R 1048634) * 256) + (R 1048635))) (c := (((R 1048634) * 256) + (R 1048635))) rfl rfl (by rw [IntWalk.i64_in _ (by omega)])
def qfRows460 : Ent := .bin .geq (.chan (some 0)) (.int .i64 60) (.bool true)
theorem qfRows460_ok (R : Nat → Int) (hR : ∀ j, 0 ≤ R j ∧ R j ≤ 255) (n0 : Nat) (hb : qfRowB n0) (hc : (n0 : Int) ≥ 60) : @EntOK (qfRowV R hR n0) Try.prog qfRows460 := by
  letI : Env := qfRowV R hR n0
  exact entCmp (k := .i64) (a := (n0 : Int)) (b := 60) rfl rfl (by show some (decide (((n0 : Int) : Int) ≥ 60)) = some true; rw [decide_eq_true (by omega)])
def qfRows461 : Ent := .conv .i64 (.chan (some 1048632)) (.chan (some 238))
theorem qfRows461_ok (R : Nat → Int) (hR : ∀ j, 0 ≤ R j ∧ R j ≤ 255) (n0 : Nat) (hb : qfRowB n0) : @EntOK (qfRowV R hR n0) Try.prog qfRows461 := by
  letI : Env := qfRowV R hR n0
  have rb1048632 := hR 1048632; exact entConvV (k := .i64) (l := .u8) (a := (R 1048632)) (c := (R 1048632)) rfl rfl (by rw [IntWalk.i64_in _ (by omega)])
def qfRows462 : Ent := .bin .shl (.chan (some 238)) (.int .u64 8) (.chan (some 239))
theorem qfRows462_ok (R : Nat → Int) (hR : ∀ j, 0 ≤ R j ∧ R j ≤ 255) (n0 : Nat) (hb : qfRowB n0) : @EntOK (qfRowV R hR n0) Try.prog qfRows462 := by
  letI : Env := qfRowV R hR n0
  have rb1048632 := hR 1048632; exact entShlV (k := .i64) (l := .u64) (a := (R 1048632)) (c := ((R 1048632) * 256)) (s := 8) rfl rfl rfl (by decide) (by show IntKind.i64.wrap ((R 1048632) * 2 ^ 8) = ((R 1048632) * 256); rw [show ((2 : Int) ^ 8) = 256 from by decide, IntWalk.i64_in _ (by omega)])
def qfRows463 : Ent := .conv .i64 (.chan (some 1048633)) (.chan (some 240))
theorem qfRows463_ok (R : Nat → Int) (hR : ∀ j, 0 ≤ R j ∧ R j ≤ 255) (n0 : Nat) (hb : qfRowB n0) : @EntOK (qfRowV R hR n0) Try.prog qfRows463 := by
  letI : Env := qfRowV R hR n0
  have rb1048633 := hR 1048633; exact entConvV (k := .i64) (l := .u8) (a := (R 1048633)) (c := (R 1048633)) rfl rfl (by rw [IntWalk.i64_in _ (by omega)])
def qfRows464 : Ent := .bin .or (.chan (some 239)) (.chan (some 240)) (.chan (some 231))
theorem qfRows464_ok (R : Nat → Int) (hR : ∀ j, 0 ≤ R j ∧ R j ≤ 255) (n0 : Nat) (hb : qfRowB n0) : @EntOK (qfRowV R hR n0) Try.prog qfRows464 := by
  letI : Env := qfRowV R hR n0
  have rb1048632 := hR 1048632; have rb1048633 := hR 1048633; exact entOrV (k := .i64) (a := ((R 1048632) * 256)) (b := (R 1048633)) (c := (((R 1048632) * 256) + (R 1048633))) rfl rfl rfl (by exact join_i64 (R 1048632) (R 1048633) 8 256 (by decide) (by omega) (by omega) (by omega) (by omega))
def qfRows465 : Ent := .conv .i64 (.chan (some 1048634)) (.chan (some 241))
theorem qfRows465_ok (R : Nat → Int) (hR : ∀ j, 0 ≤ R j ∧ R j ≤ 255) (n0 : Nat) (hb : qfRowB n0) : @EntOK (qfRowV R hR n0) Try.prog qfRows465 := by
  letI : Env := qfRowV R hR n0
  have rb1048634 := hR 1048634; exact entConvV (k := .i64) (l := .u8) (a := (R 1048634)) (c := (R 1048634)) rfl rfl (by rw [IntWalk.i64_in _ (by omega)])
def qfRows466 : Ent := .bin .shl (.chan (some 241)) (.int .u64 8) (.chan (some 242))
theorem qfRows466_ok (R : Nat → Int) (hR : ∀ j, 0 ≤ R j ∧ R j ≤ 255) (n0 : Nat) (hb : qfRowB n0) : @EntOK (qfRowV R hR n0) Try.prog qfRows466 := by
  letI : Env := qfRowV R hR n0
  have rb1048634 := hR 1048634; exact entShlV (k := .i64) (l := .u64) (a := (R 1048634)) (c := ((R 1048634) * 256)) (s := 8) rfl rfl rfl (by decide) (by show IntKind.i64.wrap ((R 1048634) * 2 ^ 8) = ((R 1048634) * 256); rw [show ((2 : Int) ^ 8) = 256 from by decide, IntWalk.i64_in _ (by omega)])
def qfRows467 : Ent := .conv .i64 (.chan (some 1048635)) (.chan (some 243))
theorem qfRows467_ok (R : Nat → Int) (hR : ∀ j, 0 ≤ R j ∧ R j ≤ 255) (n0 : Nat) (hb : qfRowB n0) : @EntOK (qfRowV R hR n0) Try.prog qfRows467 := by
  letI : Env := qfRowV R hR n0
  have rb1048635 := hR 1048635; exact entConvV (k := .i64) (l := .u8) (a := (R 1048635)) (c := (R 1048635)) rfl rfl (by rw [IntWalk.i64_in _ (by omega)])
def qfRows468 : Ent := .bin .or (.chan (some 242)) (.chan (some 243)) (.chan (some 237))
theorem qfRows468_ok (R : Nat → Int) (hR : ∀ j, 0 ≤ R j ∧ R j ≤ 255) (n0 : Nat) (hb : qfRowB n0) : @EntOK (qfRowV R hR n0) Try.prog qfRows468 := by
  letI : Env := qfRowV R hR n0
  have rb1048634 := hR 1048634; have rb1048635 := hR 1048635; exact entOrV (k := .i64) (a := ((R 1048634) * 256)) (b := (R 1048635)) (c := (((R 1048634) * 256) + (R 1048635))) rfl rfl rfl (by exact join_i64 (R 1048634) (R 1048635) 8 256 (by decide) (by omega) (by omega) (by omega) (by omega))
def qfRows469 : Ent := .eqs false 50 [.chan (some 17), .chan (some 34), .chan (some 231), .chan (some 45), .chan (some 237)] [.chan (some 17), .chan (some 54), .chan (some 231), .chan (some 60), .chan (some 237)] true
theorem qfRows469_ok (R : Nat → Int) (hR : ∀ j, 0 ≤ R j ∧ R j ≤ 255) (n0 : Nat) (hb : qfRowB n0) : @EntOK (qfRowV R hR n0) Try.prog qfRows469 := by
  letI : Env := qfRowV R hR n0
  have rb1048588 := hR 1048588; have rb1048589 := hR 1048589; have rb1048590 := hR 1048590; have rb1048591 := hR 1048591; have rb1048592 := hR 1048592; have rb1048593 := hR 1048593; have rb1048594 := hR 1048594; have rb1048595 := hR 1048595; exact ⟨by intro v hv; simp only [List.mem_cons, List.not_mem_nil, or_false] at hv; rcases hv with rfl | rfl | rfl | rfl | rfl <;> first | exact .inl ⟨_, _, rfl⟩ | exact .inr ⟨_, rfl⟩, by intro v hv; simp only [List.mem_cons, List.not_mem_nil, or_false] at hv; rcases hv with rfl | rfl | rfl | rfl | rfl <;> first | exact .inl ⟨_, _, rfl⟩ | exact .inr ⟨_, rfl⟩, by intro a1 a2 w; have e0 : (((((((R 1048588) * 256) + (R 1048589)) * 256) + (R 1048590)) * 256) + (R 1048591)) = (((((R 1048588) * 16777216) + ((R 1048589) * 65536)) + ((R 1048590) * 256)) + (R 1048591)) := (by omega); have e1 : (((((((R 1048592) * 256) + (R 1048593)) * 256) + (R 1048594)) * 256) + (R 1048595)) = (((((R 1048592) * 16777216) + ((R 1048593) * 65536)) + ((R 1048594) * 256)) + (R 1048595)) := (by omega); exact eqFlow _ _ _ _ _ _ _ _ _ _ (by omega) (by omega) (by omega) (by omega) (by omega) a1 a2 w⟩
def qfRows470 : Ent := .bin .and (.chan (some 3)) (.int .i64 15) (.int .i64 15)
theorem qfRows470_ok (R : Nat → Int) (hR : ∀ j, 0 ≤ R j ∧ R j ≤ 255) (n0 : Nat) (hb : qfRowB n0) (hc : ((R 1048576) % 16) = 15) : @EntOK (qfRowV R hR n0) Try.prog qfRows470 := by
  letI : Env := qfRowV R hR n0
  have rb1048576 := hR 1048576; exact entAndI (k := .i64) (a := (R 1048576)) (b := 15) (c := 15) rfl rfl (by rw [show band .i64 (R 1048576) 15 = ((R 1048576) % 16) from (by exact mask_i64 (R 1048576) 4 15 16 (by decide) (by decide) (by decide))]; omega)
def qfRows471 : Ent := .bin .gtr (.int .i64 40) (.chan (some 35)) (.bool true)
theorem qfRows471_ok (R : Nat → Int) (hR : ∀ j, 0 ≤ R j ∧ R j ≤ 255) (n0 : Nat) (hb : qfRowB n0) (hc : 40 > ((n0 : Int) - 20)) : @EntOK (qfRowV R hR n0) Try.prog qfRows471 := by
  letI : Env := qfRowV R hR n0
  exact entCmp (k := .i64) (a := 40) (b := ((n0 : Int) - 20)) rfl rfl (by show some (decide ((40 : Int) > ((n0 : Int) - 20))) = some true; rw [decide_eq_true (by omega)])
def qfRows472 : Ent := .bin .rem (.chan (some 1048576)) (.int .u8 16) (.int .u8 15)
theorem qfRows472_ok (R : Nat → Int) (hR : ∀ j, 0 ≤ R j ∧ R j ≤ 255) (n0 : Nat) (hb : qfRowB n0) (hc : ((R 1048576) % 16) = 15) : @EntOK (qfRowV R hR n0) Try.prog qfRows472 := by
  letI : Env := qfRowV R hR n0
  have rb1048576 := hR 1048576; exact entRemI (k := .u8) (a := (R 1048576)) (b := 16) (c := 15) rfl rfl (by omega) (by rw [Int.tmod_eq_emod_of_nonneg (by omega)]; omega)
def qfRows473 : Ent := .bin .gtr (.int .i64 60) (.chan (some 0)) (.bool true)
theorem qfRows473_ok (R : Nat → Int) (hR : ∀ j, 0 ≤ R j ∧ R j ≤ 255) (n0 : Nat) (hb : qfRowB n0) (hc : 60 > (n0 : Int)) : @EntOK (qfRowV R hR n0) Try.prog qfRows473 := by
  letI : Env := qfRowV R hR n0
  exact entCmp (k := .i64) (a := 60) (b := (n0 : Int)) rfl rfl (by show some (decide ((60 : Int) > (n0 : Int))) = some true; rw [decide_eq_true (by omega)])
def qfRows474 : Ent := .bin .gtr (.int .i64 40) (.chan (some 35)) (.bool false)
theorem qfRows474_ok (R : Nat → Int) (hR : ∀ j, 0 ≤ R j ∧ R j ≤ 255) (n0 : Nat) (hb : qfRowB n0) (hc : ¬ (40 > ((n0 : Int) - 20))) : @EntOK (qfRowV R hR n0) Try.prog qfRows474 := by
  letI : Env := qfRowV R hR n0
  exact entCmp (k := .i64) (a := 40) (b := ((n0 : Int) - 20)) rfl rfl (by show some (decide ((40 : Int) > ((n0 : Int) - 20))) = some false; rw [decide_eq_false (by omega)])
def qfRows475 : Ent := .bin .gtr (.int .i64 0) (.chan (some 232)) (.bool false)
theorem qfRows475_ok (R : Nat → Int) (hR : ∀ j, 0 ≤ R j ∧ R j ≤ 255) (n0 : Nat) (hb : qfRowB n0) (hc : ¬ (0 > ((n0 : Int) - 60))) : @EntOK (qfRowV R hR n0) Try.prog qfRows475 := by
  letI : Env := qfRowV R hR n0
  exact entCmp (k := .i64) (a := 0) (b := ((n0 : Int) - 60)) rfl rfl (by show some (decide ((0 : Int) > ((n0 : Int) - 60))) = some false; rw [decide_eq_false (by omega)])
def qfRows476 : Ent := .bin .geq (.chan (some 232)) (.int .i64 4) (.bool false)
theorem qfRows476_ok (R : Nat → Int) (hR : ∀ j, 0 ≤ R j ∧ R j ≤ 255) (n0 : Nat) (hb : qfRowB n0) (hc : ¬ (((n0 : Int) - 60) ≥ 4)) : @EntOK (qfRowV R hR n0) Try.prog qfRows476 := by
  letI : Env := qfRowV R hR n0
  exact entCmp (k := .i64) (a := ((n0 : Int) - 60)) (b := 4) rfl rfl (by show some (decide ((((n0 : Int) - 60) : Int) ≥ 4)) = some false; rw [decide_eq_false (by omega)])
def qfRows477 : Ent := .bin .gtr (.int .i64 60) (.chan (some 0)) (.bool false)
theorem qfRows477_ok (R : Nat → Int) (hR : ∀ j, 0 ≤ R j ∧ R j ≤ 255) (n0 : Nat) (hb : qfRowB n0) (hc : ¬ (60 > (n0 : Int))) : @EntOK (qfRowV R hR n0) Try.prog qfRows477 := by
  letI : Env := qfRowV R hR n0
  exact entCmp (k := .i64) (a := 60) (b := (n0 : Int)) rfl rfl (by show some (decide ((60 : Int) > (n0 : Int))) = some false; rw [decide_eq_false (by omega)])
def qfRows478 : Ent := .bin .geq (.chan (some 0)) (.int .i64 64) (.bool false)
theorem qfRows478_ok (R : Nat → Int) (hR : ∀ j, 0 ≤ R j ∧ R j ≤ 255) (n0 : Nat) (hb : qfRowB n0) (hc : ¬ ((n0 : Int) ≥ 64)) : @EntOK (qfRowV R hR n0) Try.prog qfRows478 := by
  letI : Env := qfRowV R hR n0
  exact entCmp (k := .i64) (a := (n0 : Int)) (b := 64) rfl rfl (by show some (decide (((n0 : Int) : Int) ≥ 64)) = some false; rw [decide_eq_false (by omega)])
def qfRows479 : Ent := .bin .geq (.chan (some 232)) (.int .i64 4) (.bool true)
theorem qfRows479_ok (R : Nat → Int) (hR : ∀ j, 0 ≤ R j ∧ R j ≤ 255) (n0 : Nat) (hb : qfRowB n0) (hc : ((n0 : Int) - 60) ≥ 4) : @EntOK (qfRowV R hR n0) Try.prog qfRows479 := by
  letI : Env := qfRowV R hR n0
  exact entCmp (k := .i64) (a := ((n0 : Int) - 60)) (b := 4) rfl rfl (by show some (decide ((((n0 : Int) - 60) : Int) ≥ 4)) = some true; rw [decide_eq_true (by omega)])
def qfRows480 : Ent := .bin .gtr (.int .i64 2) (.chan (some 232)) (.bool false)
theorem qfRows480_ok (R : Nat → Int) (hR : ∀ j, 0 ≤ R j ∧ R j ≤ 255) (n0 : Nat) (hb : qfRowB n0) (hc : ¬ ((2 : Int) > ((n0 : Int) - 60))) : @EntOK (qfRowV R hR n0) Try.prog qfRows480 := by
  letI : Env := qfRowV R hR n0
  exact entCmp (k := .i64) (a := 2) (b := ((n0 : Int) - 60)) rfl rfl (by show some (decide ((2 : Int) > ((n0 : Int) - 60))) = some false; rw [decide_eq_false (by omega)])
def qfRows481 : Ent := .slen 0 125 (.chan (some 244))
theorem qfRows481_ok (R : Nat → Int) (hR : ∀ j, 0 ≤ R j ∧ R j ≤ 255) (n0 : Nat) (hb : qfRowB n0) (hc : 62 ≤ n0) : @EntOK (qfRowV R hR n0) Try.prog qfRows481 := by
  letI : Env := qfRowV R hR n0
  exact entSlen (n := n0) (j := 244) (c := ((n0 : Int) - 62)) rfl rfl (by simp; try omega) (by first | exact .inl rfl | (right; omega))
def qfRows482 : Ent := .conv .u32 (.chan (some 1048636)) (.chan (some 245))
theorem qfRows482_ok (R : Nat → Int) (hR : ∀ j, 0 ≤ R j ∧ R j ≤ 255) (n0 : Nat) (hb : qfRowB n0) : @EntOK (qfRowV R hR n0) Try.prog qfRows482 := by
  letI : Env := qfRowV R hR n0
  have rb1048636 := hR 1048636; exact entConvV (k := .u32) (l := .u8) (a := (R 1048636)) (c := (R 1048636)) rfl rfl (by rw [IntWalk.u32_in _ (by omega)])
def qfRows483 : Ent := .bin .or (.int .u32 0) (.chan (some 245)) (.chan (some 245))
theorem qfRows483_ok (R : Nat → Int) (hR : ∀ j, 0 ≤ R j ∧ R j ≤ 255) (n0 : Nat) (hb : qfRowB n0) : @EntOK (qfRowV R hR n0) Try.prog qfRows483 := by
  letI : Env := qfRowV R hR n0
  have rb1048636 := hR 1048636; exact entOrV (k := .u32) (a := 0) (b := (R 1048636)) (c := (R 1048636)) rfl rfl rfl (by have h := join_u32 0 (R 1048636) 8 256 (by decide) (by omega) (by omega) (by omega) (by omega); simpa using h)
def qfRows484 : Ent := .bin .shl (.chan (some 245)) (.int .u64 8) (.chan (some 246))
theorem qfRows484_ok (R : Nat → Int) (hR : ∀ j, 0 ≤ R j ∧ R j ≤ 255) (n0 : Nat) (hb : qfRowB n0) : @EntOK (qfRowV R hR n0) Try.prog qfRows484 := by
  letI : Env := qfRowV R hR n0
  have rb1048636 := hR 1048636; exact entShlV (k := .u32) (l := .u64) (a := (R 1048636)) (c := ((R 1048636) * 256)) (s := 8) rfl rfl rfl (by decide) (by show IntKind.u32.wrap ((R 1048636) * 2 ^ 8) = ((R 1048636) * 256); rw [show ((2 : Int) ^ 8) = 256 from by decide, IntWalk.u32_in _ (by omega)])
def qfRows485 : Ent := .conv .u32 (.chan (some 1048637)) (.chan (some 247))
theorem qfRows485_ok (R : Nat → Int) (hR : ∀ j, 0 ≤ R j ∧ R j ≤ 255) (n0 : Nat) (hb : qfRowB n0) : @EntOK (qfRowV R hR n0) Try.prog qfRows485 := by
  letI : Env := qfRowV R hR n0
  have rb1048637 := hR 1048637; exact entConvV (k := .u32) (l := .u8) (a := (R 1048637)) (c := (R 1048637)) rfl rfl (by rw [IntWalk.u32_in _ (by omega)])
def qfRows486 : Ent := .bin .or (.chan (some 246)) (.chan (some 247)) (.chan (some 248))
theorem qfRows486_ok (R : Nat → Int) (hR : ∀ j, 0 ≤ R j ∧ R j ≤ 255) (n0 : Nat) (hb : qfRowB n0) : @EntOK (qfRowV R hR n0) Try.prog qfRows486 := by
  letI : Env := qfRowV R hR n0
  have rb1048636 := hR 1048636; have rb1048637 := hR 1048637; exact entOrV (k := .u32) (a := ((R 1048636) * 256)) (b := (R 1048637)) (c := (((R 1048636) * 256) + (R 1048637))) rfl rfl rfl (by exact join_u32 (R 1048636) (R 1048637) 8 256 (by decide) (by omega) (by omega) (by omega) (by omega))
def qfRows487 : Ent := .conv .i64 (.chan (some 248)) (.chan (some 249))
theorem qfRows487_ok (R : Nat → Int) (hR : ∀ j, 0 ≤ R j ∧ R j ≤ 255) (n0 : Nat) (hb : qfRowB n0) : @EntOK (qfRowV R hR n0) Try.prog qfRows487 := by
  letI : Env := qfRowV R hR n0
  have rb1048636 := hR 1048636; have rb1048637 := hR 1048637; exact entConvV (k := .i64) (l := .u32) (a := (((R 1048636) * 256) + (R 1048637))) (c := (((R 1048636) * 256) + (R 1048637))) rfl rfl (by rw [IntWalk.i64_in _ (by omega)])
def qfRows488 : Ent := .bin .gtr (.int .i64 2) (.chan (some 244)) (.bool false)
theorem qfRows488_ok (R : Nat → Int) (hR : ∀ j, 0 ≤ R j ∧ R j ≤ 255) (n0 : Nat) (hb : qfRowB n0) (hc : ¬ (2 > ((n0 : Int) - 62))) : @EntOK (qfRowV R hR n0) Try.prog qfRows488 := by
  letI : Env := qfRowV R hR n0
  exact entCmp (k := .i64) (a := 2) (b := ((n0 : Int) - 62)) rfl rfl (by show some (decide ((2 : Int) > ((n0 : Int) - 62))) = some false; rw [decide_eq_false (by omega)])
def qfRows489 : Ent := .slen 0 129 (.chan (some 250))
theorem qfRows489_ok (R : Nat → Int) (hR : ∀ j, 0 ≤ R j ∧ R j ≤ 255) (n0 : Nat) (hb : qfRowB n0) (hc : 64 ≤ n0) : @EntOK (qfRowV R hR n0) Try.prog qfRows489 := by
  letI : Env := qfRowV R hR n0
  exact entSlen (n := n0) (j := 250) (c := ((n0 : Int) - 64)) rfl rfl (by simp; try omega) (by first | exact .inl rfl | (right; omega))
def qfRows490 : Ent := .conv .u32 (.chan (some 1048638)) (.chan (some 251))
theorem qfRows490_ok (R : Nat → Int) (hR : ∀ j, 0 ≤ R j ∧ R j ≤ 255) (n0 : Nat) (hb : qfRowB n0) : @EntOK (qfRowV R hR n0) Try.prog qfRows490 := by
  letI : Env := qfRowV R hR n0
  have rb1048638 := hR 1048638; exact entConvV (k := .u32) (l := .u8) (a := (R 1048638)) (c := (R 1048638)) rfl rfl (by rw [IntWalk.u32_in _ (by omega)])
def qfRows491 : Ent := .bin .or (.int .u32 0) (.chan (some 251)) (.chan (some 251))
theorem qfRows491_ok (R : Nat → Int) (hR : ∀ j, 0 ≤ R j ∧ R j ≤ 255) (n0 : Nat) (hb : qfRowB n0) : @EntOK (qfRowV R hR n0) Try.prog qfRows491 := by
  letI : Env := qfRowV R hR n0
  have rb1048638 := hR 1048638; exact entOrV (k := .u32) (a := 0) (b := (R 1048638)) (c := (R 1048638)) rfl rfl rfl (by have h := join_u32 0 (R 1048638) 8 256 (by decide) (by omega) (by omega) (by omega) (by omega); simpa using h)
def qfRows492 : Ent := .bin .shl (.chan (some 251)) (.int .u64 8) (.chan (some 252))
theorem qfRows492_ok (R : Nat → Int) (hR : ∀ j, 0 ≤ R j ∧ R j ≤ 255) (n0 : Nat) (hb : qfRowB n0) : @EntOK (qfRowV R hR n0) Try.prog qfRows492 := by
  letI : Env := qfRowV R hR n0
  have rb1048638 := hR 1048638; exact entShlV (k := .u32) (l := .u64) (a := (R 1048638)) (c := ((R 1048638) * 256)) (s := 8) rfl rfl rfl (by decide) (by show IntKind.u32.wrap ((R 1048638) * 2 ^ 8) = ((R 1048638) * 256); rw [show ((2 : Int) ^ 8) = 256 from by decide, IntWalk.u32_in _ (by omega)])
def qfRows493 : Ent := .conv .u32 (.chan (some 1048639)) (.chan (some 253))
theorem qfRows493_ok (R : Nat → Int) (hR : ∀ j, 0 ≤ R j ∧ R j ≤ 255) (n0 : Nat) (hb : qfRowB n0) : @EntOK (qfRowV R hR n0) Try.prog qfRows493 := by
  letI : Env := qfRowV R hR n0
  have rb1048639 := hR 1048639; exact entConvV (k := .u32) (l := .u8) (a := (R 1048639)) (c := (R 1048639)) rfl rfl (by rw [IntWalk.u32_in _ (by omega)])
def qfRows494 : Ent := .bin .or (.chan (some 252)) (.chan (some 253)) (.chan (some 254))
theorem qfRows494_ok (R : Nat → Int) (hR : ∀ j, 0 ≤ R j ∧ R j ≤ 255) (n0 : Nat) (hb : qfRowB n0) : @EntOK (qfRowV R hR n0) Try.prog qfRows494 := by
  letI : Env := qfRowV R hR n0
  have rb1048638 := hR 1048638; have rb1048639 := hR 1048639; exact entOrV (k := .u32) (a := ((R 1048638) * 256)) (b := (R 1048639)) (c := (((R 1048638) * 256) + (R 1048639))) rfl rfl rfl (by exact join_u32 (R 1048638) (R 1048639) 8 256 (by decide) (by omega) (by omega) (by omega) (by omega))
def qfRows495 : Ent := .conv .i64 (.chan (some 254)) (.chan (some 255))
theorem qfRows495_ok (R : Nat → Int) (hR : ∀ j, 0 ≤ R j ∧ R j ≤ 255) (n0 : Nat) (hb : qfRowB n0) : @EntOK (qfRowV R hR n0) Try.prog qfRows495 := by
  letI : Env := qfRowV R hR n0
  have rb1048638 := hR 1048638; have rb1048639 := hR 1048639; exact entConvV (k := .i64) (l := .u32) (a := (((R 1048638) * 256) + (R 1048639))) (c := (((R 1048638) * 256) + (R 1048639))) rfl rfl (by rw [IntWalk.i64_in _ (by omega)])
def qfRows496 : Ent := .bin .geq (.chan (some 0)) (.int .i64 64) (.bool true)
theorem qfRows496_ok (R : Nat → Int) (hR : ∀ j, 0 ≤ R j ∧ R j ≤ 255) (n0 : Nat) (hb : qfRowB n0) (hc : (n0 : Int) ≥ 64) : @EntOK (qfRowV R hR n0) Try.prog qfRows496 := by
  letI : Env := qfRowV R hR n0
  exact entCmp (k := .i64) (a := (n0 : Int)) (b := 64) rfl rfl (by show some (decide (((n0 : Int) : Int) ≥ 64)) = some true; rw [decide_eq_true (by omega)])
def qfRows497 : Ent := .conv .i64 (.chan (some 1048636)) (.chan (some 256))
theorem qfRows497_ok (R : Nat → Int) (hR : ∀ j, 0 ≤ R j ∧ R j ≤ 255) (n0 : Nat) (hb : qfRowB n0) : @EntOK (qfRowV R hR n0) Try.prog qfRows497 := by
  letI : Env := qfRowV R hR n0
  have rb1048636 := hR 1048636; exact entConvV (k := .i64) (l := .u8) (a := (R 1048636)) (c := (R 1048636)) rfl rfl (by rw [IntWalk.i64_in _ (by omega)])
def qfRows498 : Ent := .bin .shl (.chan (some 256)) (.int .u64 8) (.chan (some 257))
theorem qfRows498_ok (R : Nat → Int) (hR : ∀ j, 0 ≤ R j ∧ R j ≤ 255) (n0 : Nat) (hb : qfRowB n0) : @EntOK (qfRowV R hR n0) Try.prog qfRows498 := by
  letI : Env := qfRowV R hR n0
  have rb1048636 := hR 1048636; exact entShlV (k := .i64) (l := .u64) (a := (R 1048636)) (c := ((R 1048636) * 256)) (s := 8) rfl rfl rfl (by decide) (by show IntKind.i64.wrap ((R 1048636) * 2 ^ 8) = ((R 1048636) * 256); rw [show ((2 : Int) ^ 8) = 256 from by decide, IntWalk.i64_in _ (by omega)])
def qfRows499 : Ent := .conv .i64 (.chan (some 1048637)) (.chan (some 258))
theorem qfRows499_ok (R : Nat → Int) (hR : ∀ j, 0 ≤ R j ∧ R j ≤ 255) (n0 : Nat) (hb : qfRowB n0) : @EntOK (qfRowV R hR n0) Try.prog qfRows499 := by
  letI : Env := qfRowV R hR n0
  have rb1048637 := hR 1048637; exact entConvV (k := .i64) (l := .u8) (a := (R 1048637)) (c := (R 1048637)) rfl rfl (by rw [IntWalk.i64_in _ (by omega)])
def qfRows500 : Ent := .bin .or (.chan (some 257)) (.chan (some 258)) (.chan (some 249))
theorem qfRows500_ok (R : Nat → Int) (hR : ∀ j, 0 ≤ R j ∧ R j ≤ 255) (n0 : Nat) (hb : qfRowB n0) : @EntOK (qfRowV R hR n0) Try.prog qfRows500 := by
  letI : Env := qfRowV R hR n0
  have rb1048636 := hR 1048636; have rb1048637 := hR 1048637; exact entOrV (k := .i64) (a := ((R 1048636) * 256)) (b := (R 1048637)) (c := (((R 1048636) * 256) + (R 1048637))) rfl rfl rfl (by exact join_i64 (R 1048636) (R 1048637) 8 256 (by decide) (by omega) (by omega) (by omega) (by omega))
def qfRows501 : Ent := .conv .i64 (.chan (some 1048638)) (.chan (some 259))
theorem qfRows501_ok (R : Nat → Int) (hR : ∀ j, 0 ≤ R j ∧ R j ≤ 255) (n0 : Nat) (hb : qfRowB n0) : @EntOK (qfRowV R hR n0) Try.prog qfRows501 := by
  letI : Env := qfRowV R hR n0
  have rb1048638 := hR 1048638; exact entConvV (k := .i64) (l := .u8) (a := (R 1048638)) (c := (R 1048638)) rfl rfl (by rw [IntWalk.i64_in _ (by omega)])
def qfRows502 : Ent := .bin .shl (.chan (some 259)) (.int .u64 8) (.chan (some 260))
theorem qfRows502_ok (R : Nat → Int) (hR : ∀ j, 0 ≤ R j ∧ R j ≤ 255) (n0 : Nat) (hb : qfRowB n0) : @EntOK (qfRowV R hR n0) Try.prog qfRows502 := by
  letI : Env := qfRowV R hR n0
  have rb1048638 := hR 1048638; exact entShlV (k := .i64) (l := .u64) (a := (R 1048638)) (c := ((R 1048638) * 256)) (s := 8) rfl rfl rfl (by decide) (by show IntKind.i64.wrap ((R 1048638) * 2 ^ 8) = ((R 1048638) * 256); rw [show ((2 : Int) ^ 8) = 256 from by decide, IntWalk.i64_in _ (by omega)])
def qfRows503 : Ent := .conv .i64 (.chan (some 1048639)) (.chan (some 261))
theorem qfRows503_ok (R : Nat → Int) (hR : ∀ j, 0 ≤ R j ∧ R j ≤ 255) (n0 : Nat) (hb : qfRowB n0) : @EntOK (qfRowV R hR n0) Try.prog qfRows503 := by
  letI : Env := qfRowV R hR n0
  have rb1048639 := hR 1048639; exact entConvV (k := .i64) (l := .u8) (a := (R 1048639)) (c := (R 1048639)) rfl rfl (by rw [IntWalk.i64_in _ (by omega)])
def qfRows504 : Ent := .bin .or (.chan (some 260)) (.chan (some 261)) (.chan (some 255))
theorem qfRows504_ok (R : Nat → Int) (hR : ∀ j, 0 ≤ R j ∧ R j ≤ 255) (n0 : Nat) (hb : qfRowB n0) : @EntOK (qfRowV R hR n0) Try.prog qfRows504 := by
  letI : Env := qfRowV R hR n0
  have rb1048638 := hR 1048638; have rb1048639 := hR 1048639; exact entOrV (k := .i64) (a := ((R 1048638) * 256)) (b := (R 1048639)) (c := (((R 1048638) * 256) + (R 1048639))) rfl rfl rfl (by exact join_i64 (R 1048638) (R 1048639) 8 256 (by decide) (by omega) (by omega) (by omega) (by omega))
def qfRows505 : Ent := .eqs false 50 [.chan (some 17), .chan (some 34), .chan (some 249), .chan (some 45), .chan (some 255)] [.chan (some 17), .chan (some 54), .chan (some 249), .chan (some 60), .chan (some 255)] true
theorem qfRows505_ok (R : Nat → Int) (hR : ∀ j, 0 ≤ R j ∧ R j ≤ 255) (n0 : Nat) (hb : qfRowB n0) : @EntOK (qfRowV R hR n0) Try.prog qfRows505 := by
  letI : Env := qfRowV R hR n0
  have rb1048588 := hR 1048588; have rb1048589 := hR 1048589; have rb1048590 := hR 1048590; have rb1048591 := hR 1048591; have rb1048592 := hR 1048592; have rb1048593 := hR 1048593; have rb1048594 := hR 1048594; have rb1048595 := hR 1048595; exact ⟨by intro v hv; simp only [List.mem_cons, List.not_mem_nil, or_false] at hv; rcases hv with rfl | rfl | rfl | rfl | rfl <;> first | exact .inl ⟨_, _, rfl⟩ | exact .inr ⟨_, rfl⟩, by intro v hv; simp only [List.mem_cons, List.not_mem_nil, or_false] at hv; rcases hv with rfl | rfl | rfl | rfl | rfl <;> first | exact .inl ⟨_, _, rfl⟩ | exact .inr ⟨_, rfl⟩, by intro a1 a2 w; have e0 : (((((((R 1048588) * 256) + (R 1048589)) * 256) + (R 1048590)) * 256) + (R 1048591)) = (((((R 1048588) * 16777216) + ((R 1048589) * 65536)) + ((R 1048590) * 256)) + (R 1048591)) := (by omega); have e1 : (((((((R 1048592) * 256) + (R 1048593)) * 256) + (R 1048594)) * 256) + (R 1048595)) = (((((R 1048592) * 16777216) + ((R 1048593) * 65536)) + ((R 1048594) * 256)) + (R 1048595)) := (by omega); exact eqFlow _ _ _ _ _ _ _ _ _ _ (by omega) (by omega) (by omega) (by omega) (by omega) a1 a2 w⟩
def qfRows506 : Ent := .bin .gtr (.int .i64 1) (.chan (some 0)) (.bool false)
theorem qfRows506_ok (R : Nat → Int) (hR : ∀ j, 0 ≤ R j ∧ R j ≤ 255) (n0 : Nat) (hb : qfRowB n0) (hc : ¬ (1 > (n0 : Int))) : @EntOK (qfRowV R hR n0) Try.prog qfRows506 := by
  letI : Env := qfRowV R hR n0
  exact entCmp (k := .i64) (a := 1) (b := (n0 : Int)) rfl rfl (by show some (decide ((1 : Int) > (n0 : Int))) = some false; rw [decide_eq_false (by first | omega | (simp only [sumVal, oct.sumF, oct.F, oct.ws]; omega))])
end Go.Proofs.Ytekanilgeigddaa.ev
