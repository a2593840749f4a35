/-
  HubStrays, by a run of each path over rows of bytes that are not looked into. Conditions: none.
-/
import Derived.Test.YtpcbpbclcldnmaaGreatEvUs
import Derived.Test.YtpcbpbclcldnmaaGreatEvP18
import Derived.Test.YtpcbpbclcldnmaaGreatEvV
import Derived.Test.YtpcbpbclcldnmaaGreatEvBd
import Derived.Test.YtpcbpbclcldnmaaGreatOrm
import Derived.Test.YtpcbpbclcldnmaaGreatEvR18a
import Derived.Test.YtpcbpbclcldnmaaGreatEvR18c
import Derived.Test.YtpcbpbclcldnmaaGreatEvR18d
import Derived.Test.YtpcbpbclcldnmaaGreatEvR18f
import Derived.Test.YtpcbpbclcldnmaaGreatEvR18g
import Derived.Test.YtpcbpbclcldnmaaGreatEvR18i
import Derived.Test.YtpcbpbclcldnmaaGreatEvR18j
import Derived.Test.YtpcbpbclcldnmaaGreatEvR18l
import Derived.KernelRfl
import Derived.DeepKeys
namespace Go.Proofs.YtpcbpbclcldnmaaGreat.ev
set_option maxRecDepth 1000000
set_option linter.unusedVariables false
set_option linter.unusedSimpArgs false
open Go.ChangeShapes Go.WideShapes Go.ChangeAt Go.RowKit Go.IntWalk Go.Lib
theorem HubStraysRow (w : World) (R : Nat → Int) (hR : ∀ j, 0 ≤ R j ∧ R j ≤ 255) (A0 : Addr) (n0 cp0 : Nat) (w0 : RowIn R 1048576 w A0 n0 cp0) (hn : n0 ≤ 20000) (hm : 1 ≤ n0) (sf sp st tp sq ak fl wn mm sc : Int) (hg : (0 ≤ sf ∧ sf ≤ 4294967295) ∧ (0 ≤ sp ∧ sp ≤ 65535) ∧ (0 ≤ st ∧ st ≤ 4294967295) ∧ (0 ≤ tp ∧ tp ≤ 65535) ∧ (0 ≤ sq ∧ sq ≤ 4294967295) ∧ (0 ≤ ak ∧ ak ≤ 4294967295) ∧ (0 ≤ fl ∧ fl ≤ 63) ∧ (0 ≤ wn ∧ wn ≤ 65535) ∧ (0 ≤ mm ∧ mm ≤ 65535) ∧ ((-1) ≤ sc ∧ sc ≤ 14)) (hq : (∀ i : Nat, R (2097152 + i) = ([(sf / 16777216), ((sf / 65536) % 256), ((sf / 256) % 256), (sf % 256), (st / 16777216), ((st / 65536) % 256), ((st / 256) % 256), (st % 256), (sq / 16777216), ((sq / 65536) % 256), ((sq / 256) % 256), (sq % 256), (ak / 16777216), ((ak / 65536) % 256), ((ak / 256) % 256), (ak % 256), ((sp / 256) % 256), (sp % 256), ((tp / 256) % 256), (tp % 256), ((wn / 256) % 256), (wn % 256), ((mm / 256) % 256), (mm % 256), (fl % 256), (sc % 256), ((((n0 : Int) + 20) / 256) % 256), (((n0 : Int) + 20) % 256), ((((n0 : Int) + 24) / 256) % 256), (((n0 : Int) + 24) % 256), ((((n0 : Int) + 28) / 256) % 256), (((n0 : Int) + 28) % 256)] : List Int).getD i 0)) : Calls Tryz.prog 7 #[.agg #[.int .u32 sf, .int .i64 sp, .int .u32 st, .int .i64 tp, .int .u32 sq, .int .u32 ak, .int .i64 fl, .int .i64 wn, .int .i64 mm, .int .i64 sc, .slice (some A0) n0 cp0]] w (fun e w' => e = .returned (.bool true) ∧ Only [] w w') := by
  by_cases h1 : mm = 0
  ·
    by_cases h2 : sc = (-1)
    ·
      by_cases h3 : (band .i64 fl 4) = 0
      ·
        by_cases h4 : (band .i64 fl 16) = 0
        ·
          by_cases h5 : (band .i64 fl 2) = 0
          ·
            by_cases h6 : (fl % 2) = 0
            ·
              exact hsRow2 w R hR A0 n0 cp0 w0 hn hm sf sp st tp sq ak fl wn mm sc hg hq h1 h2 h3 h4 h5 h6
            ·
              exact hsRow3 w R hR A0 n0 cp0 w0 hn hm sf sp st tp sq ak fl wn mm sc hg hq h1 h2 h3 h4 h5 h6
          ·
            by_cases h6 : (fl % 2) = 0
            ·
              exact hsRow4 w R hR A0 n0 cp0 w0 hn hm sf sp st tp sq ak fl wn mm sc hg hq h1 h2 h3 h4 h5 h6
            ·
              exact hsRow5 w R hR A0 n0 cp0 w0 hn hm sf sp st tp sq ak fl wn mm sc hg hq h1 h2 h3 h4 h5 h6
        ·
          exact hsRow1 w R hR A0 n0 cp0 w0 hn hm sf sp st tp sq ak fl wn mm sc hg hq h1 h2 h3 h4
      ·
        exact hsRow0 w R hR A0 n0 cp0 w0 hn hm sf sp st tp sq ak fl wn mm sc hg hq h1 h2 h3
    ·
      by_cases h3 : (band .i64 fl 4) = 0
      ·
        by_cases h4 : (band .i64 fl 16) = 0
        ·
          by_cases h5 : (band .i64 fl 2) = 0
          ·
            by_cases h6 : (fl % 2) = 0
            ·
              exact hsRow8 w R hR A0 n0 cp0 w0 hn hm sf sp st tp sq ak fl wn mm sc hg hq h1 h2 h3 h4 h5 h6
            ·
              exact hsRow9 w R hR A0 n0 cp0 w0 hn hm sf sp st tp sq ak fl wn mm sc hg hq h1 h2 h3 h4 h5 h6
          ·
            by_cases h6 : (fl % 2) = 0
            ·
              exact hsRow10 w R hR A0 n0 cp0 w0 hn hm sf sp st tp sq ak fl wn mm sc hg hq h1 h2 h3 h4 h5 h6
            ·
              exact hsRow11 w R hR A0 n0 cp0 w0 hn hm sf sp st tp sq ak fl wn mm sc hg hq h1 h2 h3 h4 h5 h6
        ·
          exact hsRow7 w R hR A0 n0 cp0 w0 hn hm sf sp st tp sq ak fl wn mm sc hg hq h1 h2 h3 h4
      ·
        exact hsRow6 w R hR A0 n0 cp0 w0 hn hm sf sp st tp sq ak fl wn mm sc hg hq h1 h2 h3
  ·
    by_cases h2 : sc = (-1)
    ·
      by_cases h3 : (band .i64 fl 4) = 0
      ·
        by_cases h4 : (band .i64 fl 16) = 0
        ·
          by_cases h5 : (band .i64 fl 2) = 0
          ·
            by_cases h6 : (fl % 2) = 0
            ·
              exact hsRow14 w R hR A0 n0 cp0 w0 hn hm sf sp st tp sq ak fl wn mm sc hg hq h1 h2 h3 h4 h5 h6
            ·
              exact hsRow15 w R hR A0 n0 cp0 w0 hn hm sf sp st tp sq ak fl wn mm sc hg hq h1 h2 h3 h4 h5 h6
          ·
            by_cases h6 : (fl % 2) = 0
            ·
              exact hsRow16 w R hR A0 n0 cp0 w0 hn hm sf sp st tp sq ak fl wn mm sc hg hq h1 h2 h3 h4 h5 h6
            ·
              exact hsRow17 w R hR A0 n0 cp0 w0 hn hm sf sp st tp sq ak fl wn mm sc hg hq h1 h2 h3 h4 h5 h6
        ·
          exact hsRow13 w R hR A0 n0 cp0 w0 hn hm sf sp st tp sq ak fl wn mm sc hg hq h1 h2 h3 h4
      ·
        exact hsRow12 w R hR A0 n0 cp0 w0 hn hm sf sp st tp sq ak fl wn mm sc hg hq h1 h2 h3
    ·
      by_cases h3 : (band .i64 fl 4) = 0
      ·
        by_cases h4 : (band .i64 fl 16) = 0
        ·
          by_cases h5 : (band .i64 fl 2) = 0
          ·
            by_cases h6 : (fl % 2) = 0
            ·
              exact hsRow20 w R hR A0 n0 cp0 w0 hn hm sf sp st tp sq ak fl wn mm sc hg hq h1 h2 h3 h4 h5 h6
            ·
              exact hsRow21 w R hR A0 n0 cp0 w0 hn hm sf sp st tp sq ak fl wn mm sc hg hq h1 h2 h3 h4 h5 h6
          ·
            by_cases h6 : (fl % 2) = 0
            ·
              exact hsRow22 w R hR A0 n0 cp0 w0 hn hm sf sp st tp sq ak fl wn mm sc hg hq h1 h2 h3 h4 h5 h6
            ·
              exact hsRow23 w R hR A0 n0 cp0 w0 hn hm sf sp st tp sq ak fl wn mm sc hg hq h1 h2 h3 h4 h5 h6
        ·
          exact hsRow19 w R hR A0 n0 cp0 w0 hn hm sf sp st tp sq ak fl wn mm sc hg hq h1 h2 h3 h4
      ·
        exact hsRow18 w R hR A0 n0 cp0 w0 hn hm sf sp st tp sq ak fl wn mm sc hg hq h1 h2 h3
theorem HubStraysNil (w : World) (R : Nat → Int) (hR : ∀ j, 0 ≤ R j ∧ R j ≤ 255) (sf sp st tp sq ak fl wn mm sc : Int) (hg : (0 ≤ sf ∧ sf ≤ 4294967295) ∧ (0 ≤ sp ∧ sp ≤ 65535) ∧ (0 ≤ st ∧ st ≤ 4294967295) ∧ (0 ≤ tp ∧ tp ≤ 65535) ∧ (0 ≤ sq ∧ sq ≤ 4294967295) ∧ (0 ≤ ak ∧ ak ≤ 4294967295) ∧ (0 ≤ fl ∧ fl ≤ 63) ∧ (0 ≤ wn ∧ wn ≤ 65535) ∧ (0 ≤ mm ∧ mm ≤ 65535) ∧ ((-1) ≤ sc ∧ sc ≤ 14)) : Calls Tryz.prog 7 #[.agg #[.int .u32 sf, .int .i64 sp, .int .u32 st, .int .i64 tp, .int .u32 sq, .int .u32 ak, .int .i64 fl, .int .i64 wn, .int .i64 mm, .int .i64 sc, .slice none 0 0]] w (fun e w' => e = .returned (.bool true) ∧ Only [] w w') := by
  by_cases h1 : mm = 0
  ·
    by_cases h2 : sc = (-1)
    ·
      by_cases h3 : (band .i64 fl 4) = 0
      ·
        by_cases h4 : (band .i64 fl 16) = 0
        ·
          by_cases h5 : (band .i64 fl 2) = 0
          ·
            by_cases h6 : (fl % 2) = 0
            ·
              exact hsNil2 w R hR sf sp st tp sq ak fl wn mm sc hg h1 h2 h3 h4 h5 h6
            ·
              exact hsNil3 w R hR sf sp st tp sq ak fl wn mm sc hg h1 h2 h3 h4 h5 h6
          ·
            by_cases h6 : (fl % 2) = 0
            ·
              exact hsNil4 w R hR sf sp st tp sq ak fl wn mm sc hg h1 h2 h3 h4 h5 h6
            ·
              exact hsNil5 w R hR sf sp st tp sq ak fl wn mm sc hg h1 h2 h3 h4 h5 h6
        ·
          exact hsNil1 w R hR sf sp st tp sq ak fl wn mm sc hg h1 h2 h3 h4
      ·
        exact hsNil0 w R hR sf sp st tp sq ak fl wn mm sc hg h1 h2 h3
    ·
      by_cases h3 : (band .i64 fl 4) = 0
      ·
        by_cases h4 : (band .i64 fl 16) = 0
        ·
          by_cases h5 : (band .i64 fl 2) = 0
          ·
            by_cases h6 : (fl % 2) = 0
            ·
              exact hsNil8 w R hR sf sp st tp sq ak fl wn mm sc hg h1 h2 h3 h4 h5 h6
            ·
              exact hsNil9 w R hR sf sp st tp sq ak fl wn mm sc hg h1 h2 h3 h4 h5 h6
          ·
            by_cases h6 : (fl % 2) = 0
            ·
              exact hsNil10 w R hR sf sp st tp sq ak fl wn mm sc hg h1 h2 h3 h4 h5 h6
            ·
              exact hsNil11 w R hR sf sp st tp sq ak fl wn mm sc hg h1 h2 h3 h4 h5 h6
        ·
          exact hsNil7 w R hR sf sp st tp sq ak fl wn mm sc hg h1 h2 h3 h4
      ·
        exact hsNil6 w R hR sf sp st tp sq ak fl wn mm sc hg h1 h2 h3
  ·
    by_cases h2 : sc = (-1)
    ·
      by_cases h3 : (band .i64 fl 4) = 0
      ·
        by_cases h4 : (band .i64 fl 16) = 0
        ·
          by_cases h5 : (band .i64 fl 2) = 0
          ·
            by_cases h6 : (fl % 2) = 0
            ·
              exact hsNil14 w R hR sf sp st tp sq ak fl wn mm sc hg h1 h2 h3 h4 h5 h6
            ·
              exact hsNil15 w R hR sf sp st tp sq ak fl wn mm sc hg h1 h2 h3 h4 h5 h6
          ·
            by_cases h6 : (fl % 2) = 0
            ·
              exact hsNil16 w R hR sf sp st tp sq ak fl wn mm sc hg h1 h2 h3 h4 h5 h6
            ·
              exact hsNil17 w R hR sf sp st tp sq ak fl wn mm sc hg h1 h2 h3 h4 h5 h6
        ·
          exact hsNil13 w R hR sf sp st tp sq ak fl wn mm sc hg h1 h2 h3 h4
      ·
        exact hsNil12 w R hR sf sp st tp sq ak fl wn mm sc hg h1 h2 h3
    ·
      by_cases h3 : (band .i64 fl 4) = 0
      ·
        by_cases h4 : (band .i64 fl 16) = 0
        ·
          by_cases h5 : (band .i64 fl 2) = 0
          ·
            by_cases h6 : (fl % 2) = 0
            ·
              exact hsNil20 w R hR sf sp st tp sq ak fl wn mm sc hg h1 h2 h3 h4 h5 h6
            ·
              exact hsNil21 w R hR sf sp st tp sq ak fl wn mm sc hg h1 h2 h3 h4 h5 h6
          ·
            by_cases h6 : (fl % 2) = 0
            ·
              exact hsNil22 w R hR sf sp st tp sq ak fl wn mm sc hg h1 h2 h3 h4 h5 h6
            ·
              exact hsNil23 w R hR sf sp st tp sq ak fl wn mm sc hg h1 h2 h3 h4 h5 h6
        ·
          exact hsNil19 w R hR sf sp st tp sq ak fl wn mm sc hg h1 h2 h3 h4
      ·
        exact hsNil18 w R hR sf sp st tp sq ak fl wn mm sc hg h1 h2 h3
theorem HubStraysEmp (w : World) (R : Nat → Int) (hR : ∀ j, 0 ≤ R j ∧ R j ≤ 255) (A0 : Addr) (cp0 : Nat) (hs : A0.spot = none ∨ cp0 = 0) (sf sp st tp sq ak fl wn mm sc : Int) (hg : (0 ≤ sf ∧ sf ≤ 4294967295) ∧ (0 ≤ sp ∧ sp ≤ 65535) ∧ (0 ≤ st ∧ st ≤ 4294967295) ∧ (0 ≤ tp ∧ tp ≤ 65535) ∧ (0 ≤ sq ∧ sq ≤ 4294967295) ∧ (0 ≤ ak ∧ ak ≤ 4294967295) ∧ (0 ≤ fl ∧ fl ≤ 63) ∧ (0 ≤ wn ∧ wn ≤ 65535) ∧ (0 ≤ mm ∧ mm ≤ 65535) ∧ ((-1) ≤ sc ∧ sc ≤ 14)) : Calls Tryz.prog 7 #[.agg #[.int .u32 sf, .int .i64 sp, .int .u32 st, .int .i64 tp, .int .u32 sq, .int .u32 ak, .int .i64 fl, .int .i64 wn, .int .i64 mm, .int .i64 sc, .slice (some A0) 0 cp0]] w (fun e w' => e = .returned (.bool true) ∧ Only [] w w') := by
  by_cases h1 : mm = 0
  ·
    by_cases h2 : sc = (-1)
    ·
      by_cases h3 : (band .i64 fl 4) = 0
      ·
        by_cases h4 : (band .i64 fl 16) = 0
        ·
          by_cases h5 : (band .i64 fl 2) = 0
          ·
            by_cases h6 : (fl % 2) = 0
            ·
              exact hsEmp2 w R hR A0 cp0 hs sf sp st tp sq ak fl wn mm sc hg h1 h2 h3 h4 h5 h6
            ·
              exact hsEmp3 w R hR A0 cp0 hs sf sp st tp sq ak fl wn mm sc hg h1 h2 h3 h4 h5 h6
          ·
            by_cases h6 : (fl % 2) = 0
            ·
              exact hsEmp4 w R hR A0 cp0 hs sf sp st tp sq ak fl wn mm sc hg h1 h2 h3 h4 h5 h6
            ·
              exact hsEmp5 w R hR A0 cp0 hs sf sp st tp sq ak fl wn mm sc hg h1 h2 h3 h4 h5 h6
        ·
          exact hsEmp1 w R hR A0 cp0 hs sf sp st tp sq ak fl wn mm sc hg h1 h2 h3 h4
      ·
        exact hsEmp0 w R hR A0 cp0 hs sf sp st tp sq ak fl wn mm sc hg h1 h2 h3
    ·
      by_cases h3 : (band .i64 fl 4) = 0
      ·
        by_cases h4 : (band .i64 fl 16) = 0
        ·
          by_cases h5 : (band .i64 fl 2) = 0
          ·
            by_cases h6 : (fl % 2) = 0
            ·
              exact hsEmp8 w R hR A0 cp0 hs sf sp st tp sq ak fl wn mm sc hg h1 h2 h3 h4 h5 h6
            ·
              exact hsEmp9 w R hR A0 cp0 hs sf sp st tp sq ak fl wn mm sc hg h1 h2 h3 h4 h5 h6
          ·
            by_cases h6 : (fl % 2) = 0
            ·
              exact hsEmp10 w R hR A0 cp0 hs sf sp st tp sq ak fl wn mm sc hg h1 h2 h3 h4 h5 h6
            ·
              exact hsEmp11 w R hR A0 cp0 hs sf sp st tp sq ak fl wn mm sc hg h1 h2 h3 h4 h5 h6
        ·
          exact hsEmp7 w R hR A0 cp0 hs sf sp st tp sq ak fl wn mm sc hg h1 h2 h3 h4
      ·
        exact hsEmp6 w R hR A0 cp0 hs sf sp st tp sq ak fl wn mm sc hg h1 h2 h3
  ·
    by_cases h2 : sc = (-1)
    ·
      by_cases h3 : (band .i64 fl 4) = 0
      ·
        by_cases h4 : (band .i64 fl 16) = 0
        ·
          by_cases h5 : (band .i64 fl 2) = 0
          ·
            by_cases h6 : (fl % 2) = 0
            ·
              exact hsEmp14 w R hR A0 cp0 hs sf sp st tp sq ak fl wn mm sc hg h1 h2 h3 h4 h5 h6
            ·
              exact hsEmp15 w R hR A0 cp0 hs sf sp st tp sq ak fl wn mm sc hg h1 h2 h3 h4 h5 h6
          ·
            by_cases h6 : (fl % 2) = 0
            ·
              exact hsEmp16 w R hR A0 cp0 hs sf sp st tp sq ak fl wn mm sc hg h1 h2 h3 h4 h5 h6
            ·
              exact hsEmp17 w R hR A0 cp0 hs sf sp st tp sq ak fl wn mm sc hg h1 h2 h3 h4 h5 h6
        ·
          exact hsEmp13 w R hR A0 cp0 hs sf sp st tp sq ak fl wn mm sc hg h1 h2 h3 h4
      ·
        exact hsEmp12 w R hR A0 cp0 hs sf sp st tp sq ak fl wn mm sc hg h1 h2 h3
    ·
      by_cases h3 : (band .i64 fl 4) = 0
      ·
        by_cases h4 : (band .i64 fl 16) = 0
        ·
          by_cases h5 : (band .i64 fl 2) = 0
          ·
            by_cases h6 : (fl % 2) = 0
            ·
              exact hsEmp20 w R hR A0 cp0 hs sf sp st tp sq ak fl wn mm sc hg h1 h2 h3 h4 h5 h6
            ·
              exact hsEmp21 w R hR A0 cp0 hs sf sp st tp sq ak fl wn mm sc hg h1 h2 h3 h4 h5 h6
          ·
            by_cases h6 : (fl % 2) = 0
            ·
              exact hsEmp22 w R hR A0 cp0 hs sf sp st tp sq ak fl wn mm sc hg h1 h2 h3 h4 h5 h6
            ·
              exact hsEmp23 w R hR A0 cp0 hs sf sp st tp sq ak fl wn mm sc hg h1 h2 h3 h4 h5 h6
        ·
          exact hsEmp19 w R hR A0 cp0 hs sf sp st tp sq ak fl wn mm sc hg h1 h2 h3 h4
      ·
        exact hsEmp18 w R hR A0 cp0 hs sf sp st tp sq ak fl wn mm sc hg h1 h2 h3
theorem HubStraysBad (w : World) (R : Nat → Int) (hR : ∀ j, 0 ≤ R j ∧ R j ≤ 255) (A0 : Option Addr) (n0 cp0 : Nat) (sf sp st tp sq ak fl wn mm sc : Int) (hsf : 0 ≤ sf ∧ sf ≤ 4294967295) (hsp : (-9223372036854775808) ≤ sp ∧ sp ≤ 9223372036854775807) (hst : 0 ≤ st ∧ st ≤ 4294967295) (htp : (-9223372036854775808) ≤ tp ∧ tp ≤ 9223372036854775807) (hsq : 0 ≤ sq ∧ sq ≤ 4294967295) (hak : 0 ≤ ak ∧ ak ≤ 4294967295) (hfl : (-9223372036854775808) ≤ fl ∧ fl ≤ 9223372036854775807) (hwn : (-9223372036854775808) ≤ wn ∧ wn ≤ 9223372036854775807) (hmm : (-9223372036854775808) ≤ mm ∧ mm ≤ 9223372036854775807) (hsc : (-9223372036854775808) ≤ sc ∧ sc ≤ 9223372036854775807) (hbad : 20000 < n0 ∨ sp < 0 ∨ 65535 < sp ∨ tp < 0 ∨ 65535 < tp ∨ wn < 0 ∨ 65535 < wn ∨ mm < 0 ∨ 65535 < mm ∨ fl < 0 ∨ 63 < fl ∨ sc < (-1) ∨ 14 < sc) : Calls Tryz.prog 7 #[.agg #[.int .u32 sf, .int .i64 sp, .int .u32 st, .int .i64 tp, .int .u32 sq, .int .u32 ak, .int .i64 fl, .int .i64 wn, .int .i64 mm, .int .i64 sc, .slice A0 n0 cp0]] w (fun e w' => e = .returned (.bool true) ∧ Only [] w w') := by
  have hb : hsBadB R A0 n0 cp0 sf sp st tp sq ak fl wn mm sc := ⟨hbad, hsf, hsp, hst, htp, hsq, hak, hfl, hwn, hmm, hsc⟩
  by_cases h1 : (n0 : Int) > 20000
  ·
    exact hsBad0 w R hR A0 n0 cp0 sf sp st tp sq ak fl wn mm sc hb h1
  ·
    by_cases h2 : sp < 0
    ·
      by_cases h3 : (band .i64 fl 4) = 0
      ·
        by_cases h4 : fl < 0
        ·
          exact hsBad25 w R hR A0 n0 cp0 sf sp st tp sq ak fl wn mm sc hb h1 h2 h3 h4
        ·
          by_cases h5 : fl > 63
          ·
            exact hsBad28 w R hR A0 n0 cp0 sf sp st tp sq ak fl wn mm sc hb h1 h2 h3 h4 h5
          ·
            exact hsBad1 w R hR A0 n0 cp0 sf sp st tp sq ak fl wn mm sc hb h1 h2 h3 h4 h5
      ·
        by_cases h4 : fl < 0
        ·
          exact hsBad23 w R hR A0 n0 cp0 sf sp st tp sq ak fl wn mm sc hb h1 h2 h3 h4
        ·
          by_cases h5 : fl > 63
          ·
            exact hsBad27 w R hR A0 n0 cp0 sf sp st tp sq ak fl wn mm sc hb h1 h2 h3 h4 h5
          ·
            exact hsBad13 w R hR A0 n0 cp0 sf sp st tp sq ak fl wn mm sc hb h1 h2 h3 h4 h5
    ·
      by_cases h3 : sp > 65535
      ·
        by_cases h4 : (band .i64 fl 4) = 0
        ·
          by_cases h5 : fl < 0
          ·
            exact hsBad26 w R hR A0 n0 cp0 sf sp st tp sq ak fl wn mm sc hb h1 h2 h3 h4 h5
          ·
            by_cases h6 : fl > 63
            ·
              exact hsBad29 w R hR A0 n0 cp0 sf sp st tp sq ak fl wn mm sc hb h1 h2 h3 h4 h5 h6
            ·
              exact hsBad2 w R hR A0 n0 cp0 sf sp st tp sq ak fl wn mm sc hb h1 h2 h3 h4 h5 h6
        ·
          by_cases h5 : fl < 0
          ·
            exact hsBad24 w R hR A0 n0 cp0 sf sp st tp sq ak fl wn mm sc hb h1 h2 h3 h4 h5
          ·
            by_cases h6 : fl > 63
            ·
              exact hsBad31 w R hR A0 n0 cp0 sf sp st tp sq ak fl wn mm sc hb h1 h2 h3 h4 h5 h6
            ·
              exact hsBad14 w R hR A0 n0 cp0 sf sp st tp sq ak fl wn mm sc hb h1 h2 h3 h4 h5 h6
      ·
        by_cases h4 : tp < 0
        ·
          by_cases h5 : (band .i64 fl 4) = 0
          ·
            by_cases h6 : fl < 0
            ·
              exact hsBad35 w R hR A0 n0 cp0 sf sp st tp sq ak fl wn mm sc hb h1 h2 h3 h4 h5 h6
            ·
              by_cases h7 : fl > 63
              ·
                exact hsBad30 w R hR A0 n0 cp0 sf sp st tp sq ak fl wn mm sc hb h1 h2 h3 h4 h5 h6 h7
              ·
                exact hsBad3 w R hR A0 n0 cp0 sf sp st tp sq ak fl wn mm sc hb h1 h2 h3 h4 h5 h6 h7
          ·
            by_cases h6 : fl < 0
            ·
              exact hsBad33 w R hR A0 n0 cp0 sf sp st tp sq ak fl wn mm sc hb h1 h2 h3 h4 h5 h6
            ·
              by_cases h7 : fl > 63
              ·
                exact hsBad34 w R hR A0 n0 cp0 sf sp st tp sq ak fl wn mm sc hb h1 h2 h3 h4 h5 h6 h7
              ·
                exact hsBad15 w R hR A0 n0 cp0 sf sp st tp sq ak fl wn mm sc hb h1 h2 h3 h4 h5 h6 h7
        ·
          by_cases h5 : tp > 65535
          ·
            by_cases h6 : (band .i64 fl 4) = 0
            ·
              by_cases h7 : fl < 0
              ·
                exact hsBad39 w R hR A0 n0 cp0 sf sp st tp sq ak fl wn mm sc hb h1 h2 h3 h4 h5 h6 h7
              ·
                by_cases h8 : fl > 63
                ·
                  exact hsBad38 w R hR A0 n0 cp0 sf sp st tp sq ak fl wn mm sc hb h1 h2 h3 h4 h5 h6 h7 h8
                ·
                  exact hsBad4 w R hR A0 n0 cp0 sf sp st tp sq ak fl wn mm sc hb h1 h2 h3 h4 h5 h6 h7 h8
            ·
              by_cases h7 : fl < 0
              ·
                exact hsBad32 w R hR A0 n0 cp0 sf sp st tp sq ak fl wn mm sc hb h1 h2 h3 h4 h5 h6 h7
              ·
                by_cases h8 : fl > 63
                ·
                  exact hsBad41 w R hR A0 n0 cp0 sf sp st tp sq ak fl wn mm sc hb h1 h2 h3 h4 h5 h6 h7 h8
                ·
                  exact hsBad16 w R hR A0 n0 cp0 sf sp st tp sq ak fl wn mm sc hb h1 h2 h3 h4 h5 h6 h7 h8
          ·
            by_cases h6 : wn < 0
            ·
              by_cases h7 : (band .i64 fl 4) = 0
              ·
                by_cases h8 : fl < 0
                ·
                  exact hsBad40 w R hR A0 n0 cp0 sf sp st tp sq ak fl wn mm sc hb h1 h2 h3 h4 h5 h6 h7 h8
                ·
                  by_cases h9 : fl > 63
                  ·
                    exact hsBad37 w R hR A0 n0 cp0 sf sp st tp sq ak fl wn mm sc hb h1 h2 h3 h4 h5 h6 h7 h8 h9
                  ·
                    exact hsBad5 w R hR A0 n0 cp0 sf sp st tp sq ak fl wn mm sc hb h1 h2 h3 h4 h5 h6 h7 h8 h9
              ·
                by_cases h8 : fl < 0
                ·
                  exact hsBad36 w R hR A0 n0 cp0 sf sp st tp sq ak fl wn mm sc hb h1 h2 h3 h4 h5 h6 h7 h8
                ·
                  by_cases h9 : fl > 63
                  ·
                    exact hsBad43 w R hR A0 n0 cp0 sf sp st tp sq ak fl wn mm sc hb h1 h2 h3 h4 h5 h6 h7 h8 h9
                  ·
                    exact hsBad17 w R hR A0 n0 cp0 sf sp st tp sq ak fl wn mm sc hb h1 h2 h3 h4 h5 h6 h7 h8 h9
            ·
              by_cases h7 : wn > 65535
              ·
                by_cases h8 : (band .i64 fl 4) = 0
                ·
                  by_cases h9 : fl < 0
                  ·
                    exact hsBad46 w R hR A0 n0 cp0 sf sp st tp sq ak fl wn mm sc hb h1 h2 h3 h4 h5 h6 h7 h8 h9
                  ·
                    by_cases h10 : fl > 63
                    ·
                      exact hsBad42 w R hR A0 n0 cp0 sf sp st tp sq ak fl wn mm sc hb h1 h2 h3 h4 h5 h6 h7 h8 h9 h10
                    ·
                      exact hsBad6 w R hR A0 n0 cp0 sf sp st tp sq ak fl wn mm sc hb h1 h2 h3 h4 h5 h6 h7 h8 h9 h10
                ·
                  by_cases h9 : fl < 0
                  ·
                    exact hsBad47 w R hR A0 n0 cp0 sf sp st tp sq ak fl wn mm sc hb h1 h2 h3 h4 h5 h6 h7 h8 h9
                  ·
                    by_cases h10 : fl > 63
                    ·
                      exact hsBad44 w R hR A0 n0 cp0 sf sp st tp sq ak fl wn mm sc hb h1 h2 h3 h4 h5 h6 h7 h8 h9 h10
                    ·
                      exact hsBad18 w R hR A0 n0 cp0 sf sp st tp sq ak fl wn mm sc hb h1 h2 h3 h4 h5 h6 h7 h8 h9 h10
              ·
                by_cases h8 : mm < 0
                ·
                  by_cases h9 : (band .i64 fl 4) = 0
                  ·
                    by_cases h10 : fl < 0
                    ·
                      exact hsBad49 w R hR A0 n0 cp0 sf sp st tp sq ak fl wn mm sc hb h1 h2 h3 h4 h5 h6 h7 h8 h9 h10
                    ·
                      by_cases h11 : fl > 63
                      ·
                        exact hsBad52 w R hR A0 n0 cp0 sf sp st tp sq ak fl wn mm sc hb h1 h2 h3 h4 h5 h6 h7 h8 h9 h10 h11
                      ·
                        exact hsBad7 w R hR A0 n0 cp0 sf sp st tp sq ak fl wn mm sc hb h1 h2 h3 h4 h5 h6 h7 h8 h9 h10 h11
                  ·
                    by_cases h10 : fl < 0
                    ·
                      exact hsBad45 w R hR A0 n0 cp0 sf sp st tp sq ak fl wn mm sc hb h1 h2 h3 h4 h5 h6 h7 h8 h9 h10
                    ·
                      by_cases h11 : fl > 63
                      ·
                        exact hsBad53 w R hR A0 n0 cp0 sf sp st tp sq ak fl wn mm sc hb h1 h2 h3 h4 h5 h6 h7 h8 h9 h10 h11
                      ·
                        exact hsBad19 w R hR A0 n0 cp0 sf sp st tp sq ak fl wn mm sc hb h1 h2 h3 h4 h5 h6 h7 h8 h9 h10 h11
                ·
                  by_cases h9 : mm > 65535
                  ·
                    by_cases h10 : (band .i64 fl 4) = 0
                    ·
                      by_cases h11 : fl < 0
                      ·
                        exact hsBad51 w R hR A0 n0 cp0 sf sp st tp sq ak fl wn mm sc hb h1 h2 h3 h4 h5 h6 h7 h8 h9 h10 h11
                      ·
                        by_cases h12 : fl > 63
                        ·
                          exact hsBad50 w R hR A0 n0 cp0 sf sp st tp sq ak fl wn mm sc hb h1 h2 h3 h4 h5 h6 h7 h8 h9 h10 h11 h12
                        ·
                          exact hsBad8 w R hR A0 n0 cp0 sf sp st tp sq ak fl wn mm sc hb h1 h2 h3 h4 h5 h6 h7 h8 h9 h10 h11 h12
                    ·
                      by_cases h11 : fl < 0
                      ·
                        exact hsBad48 w R hR A0 n0 cp0 sf sp st tp sq ak fl wn mm sc hb h1 h2 h3 h4 h5 h6 h7 h8 h9 h10 h11
                      ·
                        by_cases h12 : fl > 63
                        ·
                          exact hsBad54 w R hR A0 n0 cp0 sf sp st tp sq ak fl wn mm sc hb h1 h2 h3 h4 h5 h6 h7 h8 h9 h10 h11 h12
                        ·
                          exact hsBad20 w R hR A0 n0 cp0 sf sp st tp sq ak fl wn mm sc hb h1 h2 h3 h4 h5 h6 h7 h8 h9 h10 h11 h12
                  ·
                    by_cases h10 : fl < 0
                    ·
                      by_cases h11 : (band .i64 fl 4) = 0
                      ·
                        exact hsBad55 w R hR A0 n0 cp0 sf sp st tp sq ak fl wn mm sc hb h1 h2 h3 h4 h5 h6 h7 h8 h9 h10 h11
                      ·
                        exact hsBad9 w R hR A0 n0 cp0 sf sp st tp sq ak fl wn mm sc hb h1 h2 h3 h4 h5 h6 h7 h8 h9 h10 h11
                    ·
                      by_cases h11 : fl > 63
                      ·
                        by_cases h12 : (band .i64 fl 4) = 0
                        ·
                          exact hsBad10 w R hR A0 n0 cp0 sf sp st tp sq ak fl wn mm sc hb h1 h2 h3 h4 h5 h6 h7 h8 h9 h10 h11 h12
                        ·
                          exact hsBad56 w R hR A0 n0 cp0 sf sp st tp sq ak fl wn mm sc hb h1 h2 h3 h4 h5 h6 h7 h8 h9 h10 h11 h12
                      ·
                        by_cases h12 : sc < (-1)
                        ·
                          by_cases h13 : (band .i64 fl 4) = 0
                          ·
                            exact hsBad11 w R hR A0 n0 cp0 sf sp st tp sq ak fl wn mm sc hb h1 h2 h3 h4 h5 h6 h7 h8 h9 h10 h11 h12 h13
                          ·
                            exact hsBad21 w R hR A0 n0 cp0 sf sp st tp sq ak fl wn mm sc hb h1 h2 h3 h4 h5 h6 h7 h8 h9 h10 h11 h12 h13
                        ·
                          by_cases h13 : sc > 14
                          ·
                            by_cases h14 : (band .i64 fl 4) = 0
                            ·
                              exact hsBad12 w R hR A0 n0 cp0 sf sp st tp sq ak fl wn mm sc hb h1 h2 h3 h4 h5 h6 h7 h8 h9 h10 h11 h12 h13 h14
                            ·
                              exact hsBad22 w R hR A0 n0 cp0 sf sp st tp sq ak fl wn mm sc hb h1 h2 h3 h4 h5 h6 h7 h8 h9 h10 h11 h12 h13 h14
                          ·
                            exfalso; omega
theorem HubStraysAll (w : World) (a0 : Option Addr) (len0 cap0 : Nat) (z0 : List Int) (h0 : IsRow .u8 w a0 len0 cap0 z0) (sf sp st tp sq ak fl wn mm sc : Int) (hsf : 0 ≤ sf ∧ sf ≤ 4294967295) (hsp : (-9223372036854775808) ≤ sp ∧ sp ≤ 9223372036854775807) (hst : 0 ≤ st ∧ st ≤ 4294967295) (htp : (-9223372036854775808) ≤ tp ∧ tp ≤ 9223372036854775807) (hsq : 0 ≤ sq ∧ sq ≤ 4294967295) (hak : 0 ≤ ak ∧ ak ≤ 4294967295) (hfl : (-9223372036854775808) ≤ fl ∧ fl ≤ 9223372036854775807) (hwn : (-9223372036854775808) ≤ wn ∧ wn ≤ 9223372036854775807) (hmm : (-9223372036854775808) ≤ mm ∧ mm ≤ 9223372036854775807) (hsc : (-9223372036854775808) ≤ sc ∧ sc ≤ 9223372036854775807) : Calls Tryz.prog 7 #[.agg #[.int .u32 sf, .int .i64 sp, .int .u32 st, .int .i64 tp, .int .u32 sq, .int .u32 ak, .int .i64 fl, .int .i64 wn, .int .i64 mm, .int .i64 sc, .slice a0 len0 cap0]] w (fun e w' => e = .returned (.bool true) ∧ Only [] w w') := by
  by_cases hbad : 20000 < len0 ∨ sp < 0 ∨ 65535 < sp ∨ tp < 0 ∨ 65535 < tp ∨ wn < 0 ∨ 65535 < wn ∨ mm < 0 ∨ 65535 < mm ∨ fl < 0 ∨ 63 < fl ∨ sc < (-1) ∨ 14 < sc
  · exact HubStraysBad w (fun _ => 0) (fun _ => ⟨by decide, by decide⟩) a0 len0 cap0 sf sp st tp sq ak fl wn mm sc hsf hsp hst htp hsq hak hfl hwn hmm hsc hbad
  have hg : (0 ≤ sf ∧ sf ≤ 4294967295) ∧ (0 ≤ sp ∧ sp ≤ 65535) ∧ (0 ≤ st ∧ st ≤ 4294967295) ∧ (0 ≤ tp ∧ tp ≤ 65535) ∧ (0 ≤ sq ∧ sq ≤ 4294967295) ∧ (0 ≤ ak ∧ ak ≤ 4294967295) ∧ (0 ≤ fl ∧ fl ≤ 63) ∧ (0 ≤ wn ∧ wn ≤ 65535) ∧ (0 ≤ mm ∧ mm ≤ 65535) ∧ ((-1) ≤ sc ∧ sc ≤ 14) := by omega
  have hn : len0 ≤ 20000 := by omega
  cases a0 with
  | none =>
    rcases h0 with ⟨_, rfl, rfl, _⟩ | ⟨x, hx, _⟩
    · exact HubStraysNil w (fun _ => 0) (fun _ => ⟨by decide, by decide⟩) sf sp st tp sq ak fl wn mm sc hg
    · cases hx
  | some A =>
    by_cases hz : len0 = 0
    · subst hz
      exact HubStraysEmp w (fun _ => 0) (fun _ => ⟨by decide, by decide⟩) A cap0 (isRow_spot h0) sf sp st tp sq ak fl wn mm sc hg
    · obtain ⟨hd, hd0⟩ : ∃ hd : List Int, hd = [(sf / 16777216), ((sf / 65536) % 256), ((sf / 256) % 256), (sf % 256), (st / 16777216), ((st / 65536) % 256), ((st / 256) % 256), (st % 256), (sq / 16777216), ((sq / 65536) % 256), ((sq / 256) % 256), (sq % 256), (ak / 16777216), ((ak / 65536) % 256), ((ak / 256) % 256), (ak % 256), ((sp / 256) % 256), (sp % 256), ((tp / 256) % 256), (tp % 256), ((wn / 256) % 256), (wn % 256), ((mm / 256) % 256), (mm % 256), (fl % 256), (sc % 256), ((((len0 : Int) + 20) / 256) % 256), (((len0 : Int) + 20) % 256), ((((len0 : Int) + 24) / 256) % 256), (((len0 : Int) + 24) % 256), ((((len0 : Int) + 28) / 256) % 256), (((len0 : Int) + 28) % 256)] := ⟨_, rfl⟩
      have hb0 : ∀ j, 0 ≤ headR z0 hd j ∧ headR z0 hd j ≤ 255 := headR_bd (isRow_wf h0) (by
        intro n hn
        rw [hd0] at hn
        simp only [List.mem_cons, List.not_mem_nil, or_false] at hn
        rcases hn with rfl | rfl | rfl | rfl | rfl | rfl | rfl | rfl | rfl | rfl | rfl | rfl | rfl | rfl | rfl | rfl | rfl | rfl | rfl | rfl | rfl | rfl | rfl | rfl | rfl | rfl | rfl | rfl | rfl | rfl | rfl | rfl <;> omega)
      have hw2 := rowIn_of (a := 1048576) (R := headR z0 hd) h0 (by omega) (fun j hj => by unfold headR; rw [if_pos (by omega), Nat.add_sub_cancel_left])
      exact HubStraysRow w (headR z0 hd) hb0 A len0 cap0 hw2 hn (by omega) sf sp st tp sq ak fl wn mm sc hg (fun i => by unfold headR; rw [if_neg (by omega), Nat.add_sub_cancel_left, hd0])
end Go.Proofs.YtpcbpbclcldnmaaGreat.ev
