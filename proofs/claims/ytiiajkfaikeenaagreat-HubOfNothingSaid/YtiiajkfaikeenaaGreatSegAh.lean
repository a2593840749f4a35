/-
  Chapter 14 (segment): how a segment is written, by a walk of each text. Conditions: none but those typed.
-/
import Derived.Test.YtiiajkfaikeenaaGreatSum
import Derived.Test.YtiiajkfaikeenaaGreatWrt
import Derived.Test.YtiiajkfaikeenaaGreatHlp14
import Derived.Test.YtiiajkfaikeenaaGreatArg
import Derived.Deep.RegionHeld3
import Derived.Outline
namespace Go.Proofs.YtiiajkfaikeenaaGreat.seg
set_option linter.unusedVariables false
set_option linter.unusedSimpArgs false
open Go.ChangeShapes Go.WideShapes Go.ChangeAt Go.RowKit Go.IntWalk Go.Lib
/-- A segment's options as they are written. -/
def opt (ms sc : Int) : List Int := (if ms = 0 then [] else [2, 4, ms / 256 % 256, ms % 256]) ++ (if sc = -1 then [] else [1, 3, 3, sc % 256])
theorem opt_len (ms sc : Int) : (opt ms sc).length ≤ 8 := by
  unfold opt; split <;> split <;> simp
set_option maxHeartbeats 4000000 in
theorem opts1 (w : World) (fr to sq ac : Int) (fp tp fl wi ms sc : Int) (A : Option Addr) (n c : Nat) :
    Calls Tryz.prog 93 #[.agg #[.int .u32 fr, .int .i64 fp, .int .u32 to, .int .i64 tp, .int .u32 sq, .int .u32 ac, .int .i64 fl, .int .i64 wi, .int .i64 ms, .int .i64 sc, .slice A n c]] w fun x w' => ∃ v, x = .returned v ∧ Own .u8 5 w' w.heap.size v (opt ms sc) ∧ Only [] w w' := by
  have OB : Hid (Ob ((w.alloc (.cells #[.int .u32 fr, .int .i64 fp, .int .u32 to, .int .i64 tp, .int .u32 sq, .int .u32 ac, .int .i64 fl, .int .i64 wi, .int .i64 ms, .int .i64 sc, .slice A n c] 28)).alloc (.cells #[.slice none 0 0] 153)) w.heap.size 28 #[.int .u32 fr, .int .i64 fp, .int .u32 to, .int .i64 tp, .int .u32 sq, .int .u32 ac, .int .i64 fl, .int .i64 wi, .int .i64 ms, .int .i64 sc, .slice A n c]) := hid ((Ob.new _ _ _).alloc _)
  have W : Hid (wrt.Wr ((w.alloc (.cells #[.int .u32 fr, .int .i64 fp, .int .u32 to, .int .i64 tp, .int .u32 sq, .int .u32 ac, .int .i64 fl, .int .i64 wi, .int .i64 ms, .int .i64 sc, .slice A n c] 28)).alloc (.cells #[.slice none 0 0] 153)) (w.heap.size + 1) (w.heap.size + 1) (.slice none 0 0) []) := hid ⟨by simpa using Ob.new (w.alloc (.cells #[.int .u32 fr, .int .i64 fp, .int .u32 to, .int .i64 tp, .int .u32 sq, .int .u32 ac, .int .i64 fl, .int .i64 wi, .int .i64 ms, .int .i64 sc, .slice A n c] 28)) 153 #[.slice none 0 0], Own.nil _ _ _ _, by omega⟩
  have B : Hid (Below (w.heap.size + 1) ((w.alloc (.cells #[.int .u32 fr, .int .i64 fp, .int .u32 to, .int .i64 tp, .int .u32 sq, .int .u32 ac, .int .i64 fl, .int .i64 wi, .int .i64 ms, .int .i64 sc, .slice A n c] 28)).alloc (.cells #[.slice none 0 0] 153)) ((w.alloc (.cells #[.int .u32 fr, .int .i64 fp, .int .u32 to, .int .i64 tp, .int .u32 sq, .int .u32 ac, .int .i64 fl, .int .i64 wi, .int .i64 ms, .int .i64 sc, .slice A n c] 28)).alloc (.cells #[.slice none 0 0] 153))) := hid (Below.refl _ _)
  have Q0 : Hid (Only [] w ((w.alloc (.cells #[.int .u32 fr, .int .i64 fp, .int .u32 to, .int .i64 tp, .int .u32 sq, .int .u32 ac, .int .i64 fl, .int .i64 wi, .int .i64 ms, .int .i64 sc, .slice A n c] 28)).alloc (.cells #[.slice none 0 0] 153))) := hid (((Only.refl [] w).alloc _).alloc _)
  have hbs : w.heap.size < w.heap.size + 1 := by omega
  by_cases hm : ms = 0
  · have dm : (ms != 0) = false := by simpa using hm
    by_cases hs : sc = -1
    · have ds : (sc != -1) = false := by simpa using hs
      have HO : Hid (opt ms sc = []) := hid (by simp [opt, hm, hs])
      clear hm hs
      go_enter Tryz.func93, Tryz.ntmps93
      have k0 := OB.out.cell 0
      have k1 := OB.out.cell 1
      have k2 := OB.out.cell 2
      have k3 := OB.out.cell 3
      have k4 := OB.out.cell 4
      have k5 := OB.out.cell 5
      have k6 := OB.out.cell 6
      have k7 := OB.out.cell 7
      have k8 := OB.out.cell 8
      have k9 := OB.out.cell 9
      have k10 := OB.out.cell 10
      go_wp2_with fail
      clear k0 k1 k2 k3 k4 k5 k6 k7 k8 k9 k10
      refine (wrt.bytes1 _ _ _ _ _ W.out (by simp)).mono ?_
      rintro x w20 ⟨v20, rfl, hv, o20⟩
      have V := hid hv; have Q := hid (only_below' Q0.out B.out (by omega))
      have Q2 := hid (Q.out.trans o20); have hq := Q.out.size
      obtain ⟨A20, cap20, ev20, _, _, _, _⟩ := hv.slice
      clear hv o20
      subst ev20
      go_wp2
      go_ret
      exact ⟨_, rfl, by rw [HO.out]; exact V.out.mono_base hq, Q2.out⟩
    · have ds : (sc != -1) = true := by simpa using hs
      have HO : Hid (opt ms sc = [1, 3, 3, sc % 256]) := hid (by simp [opt, hm, hs])
      clear hm hs
      go_enter Tryz.func93, Tryz.ntmps93
      have k0 := OB.out.cell 0
      have k1 := OB.out.cell 1
      have k2 := OB.out.cell 2
      have k3 := OB.out.cell 3
      have k4 := OB.out.cell 4
      have k5 := OB.out.cell 5
      have k6 := OB.out.cell 6
      have k7 := OB.out.cell 7
      have k8 := OB.out.cell 8
      have k9 := OB.out.cell 9
      have k10 := OB.out.cell 10
      go_wp2_with fail
      clear k0 k1 k2 k3 k4 k5 k6 k7 k8 k9 k10
      refine (wrt.byte1 _ _ _ _ _ 1 W.out (by simp)).mono ?_
      rintro x w1 ⟨rfl, b1, v1, h1⟩
      have B := hid (B.out.trans b1); have W := hid h1; have OB := hid (OB.out.below b1 hbs); clear b1 h1
      have k0 := OB.out.cell 0
      have k1 := OB.out.cell 1
      have k2 := OB.out.cell 2
      have k3 := OB.out.cell 3
      have k4 := OB.out.cell 4
      have k5 := OB.out.cell 5
      have k6 := OB.out.cell 6
      have k7 := OB.out.cell 7
      have k8 := OB.out.cell 8
      have k9 := OB.out.cell 9
      have k10 := OB.out.cell 10
      go_wp2_with fail
      clear k0 k1 k2 k3 k4 k5 k6 k7 k8 k9 k10
      refine (wrt.byte1 _ _ _ _ _ 3 W.out (by simp)).mono ?_
      rintro x w2 ⟨rfl, b2, v2, h2⟩
      have B := hid (B.out.trans b2); have W := hid h2; have OB := hid (OB.out.below b2 hbs); clear b2 h2
      have k0 := OB.out.cell 0
      have k1 := OB.out.cell 1
      have k2 := OB.out.cell 2
      have k3 := OB.out.cell 3
      have k4 := OB.out.cell 4
      have k5 := OB.out.cell 5
      have k6 := OB.out.cell 6
      have k7 := OB.out.cell 7
      have k8 := OB.out.cell 8
      have k9 := OB.out.cell 9
      have k10 := OB.out.cell 10
      go_wp2_with fail
      clear k0 k1 k2 k3 k4 k5 k6 k7 k8 k9 k10
      refine (wrt.byte1 _ _ _ _ _ 3 W.out (by simp)).mono ?_
      rintro x w3 ⟨rfl, b3, v3, h3⟩
      have B := hid (B.out.trans b3); have W := hid h3; have OB := hid (OB.out.below b3 hbs); clear b3 h3
      have k0 := OB.out.cell 0
      have k1 := OB.out.cell 1
      have k2 := OB.out.cell 2
      have k3 := OB.out.cell 3
      have k4 := OB.out.cell 4
      have k5 := OB.out.cell 5
      have k6 := OB.out.cell 6
      have k7 := OB.out.cell 7
      have k8 := OB.out.cell 8
      have k9 := OB.out.cell 9
      have k10 := OB.out.cell 10
      go_wp2_with fail
      clear k0 k1 k2 k3 k4 k5 k6 k7 k8 k9 k10
      refine (wrt.byte1 _ _ _ _ _ sc W.out (by simp)).mono ?_
      rintro x w4 ⟨rfl, b4, v4, h4⟩
      have B := hid (B.out.trans b4); have W := hid h4; have OB := hid (OB.out.below b4 hbs); clear b4 h4
      have k0 := OB.out.cell 0
      have k1 := OB.out.cell 1
      have k2 := OB.out.cell 2
      have k3 := OB.out.cell 3
      have k4 := OB.out.cell 4
      have k5 := OB.out.cell 5
      have k6 := OB.out.cell 6
      have k7 := OB.out.cell 7
      have k8 := OB.out.cell 8
      have k9 := OB.out.cell 9
      have k10 := OB.out.cell 10
      go_wp2_with fail
      clear k0 k1 k2 k3 k4 k5 k6 k7 k8 k9 k10
      refine (wrt.bytes1 _ _ _ _ _ W.out (by simp)).mono ?_
      rintro x w20 ⟨v20, rfl, hv, o20⟩
      have V := hid hv; have Q := hid (only_below' Q0.out B.out (by omega))
      have Q2 := hid (Q.out.trans o20); have hq := Q.out.size
      obtain ⟨A20, cap20, ev20, _, _, _, _⟩ := hv.slice
      clear hv o20
      subst ev20
      go_wp2
      go_ret
      exact ⟨_, rfl, by rw [HO.out]; exact V.out.mono_base hq, Q2.out⟩
  · have dm : (ms != 0) = true := by simpa using hm
    by_cases hs : sc = -1
    · have ds : (sc != -1) = false := by simpa using hs
      have HO : Hid (opt ms sc = [2, 4, ms / 256 % 256, ms % 256]) := hid (by simp [opt, hm, hs])
      clear hm hs
      go_enter Tryz.func93, Tryz.ntmps93
      have k0 := OB.out.cell 0
      have k1 := OB.out.cell 1
      have k2 := OB.out.cell 2
      have k3 := OB.out.cell 3
      have k4 := OB.out.cell 4
      have k5 := OB.out.cell 5
      have k6 := OB.out.cell 6
      have k7 := OB.out.cell 7
      have k8 := OB.out.cell 8
      have k9 := OB.out.cell 9
      have k10 := OB.out.cell 10
      go_wp2_with fail
      clear k0 k1 k2 k3 k4 k5 k6 k7 k8 k9 k10
      refine (wrt.byte1 _ _ _ _ _ 2 W.out (by simp)).mono ?_
      rintro x w1 ⟨rfl, b1, v1, h1⟩
      have B := hid (B.out.trans b1); have W := hid h1; have OB := hid (OB.out.below b1 hbs); clear b1 h1
      have k0 := OB.out.cell 0
      have k1 := OB.out.cell 1
      have k2 := OB.out.cell 2
      have k3 := OB.out.cell 3
      have k4 := OB.out.cell 4
      have k5 := OB.out.cell 5
      have k6 := OB.out.cell 6
      have k7 := OB.out.cell 7
      have k8 := OB.out.cell 8
      have k9 := OB.out.cell 9
      have k10 := OB.out.cell 10
      go_wp2_with fail
      clear k0 k1 k2 k3 k4 k5 k6 k7 k8 k9 k10
      refine (wrt.byte1 _ _ _ _ _ 4 W.out (by simp)).mono ?_
      rintro x w2 ⟨rfl, b2, v2, h2⟩
      have B := hid (B.out.trans b2); have W := hid h2; have OB := hid (OB.out.below b2 hbs); clear b2 h2
      have k0 := OB.out.cell 0
      have k1 := OB.out.cell 1
      have k2 := OB.out.cell 2
      have k3 := OB.out.cell 3
      have k4 := OB.out.cell 4
      have k5 := OB.out.cell 5
      have k6 := OB.out.cell 6
      have k7 := OB.out.cell 7
      have k8 := OB.out.cell 8
      have k9 := OB.out.cell 9
      have k10 := OB.out.cell 10
      go_wp2_with fail
      clear k0 k1 k2 k3 k4 k5 k6 k7 k8 k9 k10
      refine (wrt.two1 _ _ _ _ _ ms W.out (by simp)).mono ?_
      rintro x w3 ⟨rfl, b3, v3, h3⟩
      have B := hid (B.out.trans b3); have W := hid h3; have OB := hid (OB.out.below b3 hbs); clear b3 h3
      have k0 := OB.out.cell 0
      have k1 := OB.out.cell 1
      have k2 := OB.out.cell 2
      have k3 := OB.out.cell 3
      have k4 := OB.out.cell 4
      have k5 := OB.out.cell 5
      have k6 := OB.out.cell 6
      have k7 := OB.out.cell 7
      have k8 := OB.out.cell 8
      have k9 := OB.out.cell 9
      have k10 := OB.out.cell 10
      go_wp2_with fail
      clear k0 k1 k2 k3 k4 k5 k6 k7 k8 k9 k10
      refine (wrt.bytes1 _ _ _ _ _ W.out (by simp)).mono ?_
      rintro x w20 ⟨v20, rfl, hv, o20⟩
      have V := hid hv; have Q := hid (only_below' Q0.out B.out (by omega))
      have Q2 := hid (Q.out.trans o20); have hq := Q.out.size
      obtain ⟨A20, cap20, ev20, _, _, _, _⟩ := hv.slice
      clear hv o20
      subst ev20
      go_wp2
      go_ret
      exact ⟨_, rfl, by rw [HO.out]; exact V.out.mono_base hq, Q2.out⟩
    · have ds : (sc != -1) = true := by simpa using hs
      have HO : Hid (opt ms sc = [2, 4, ms / 256 % 256, ms % 256, 1, 3, 3, sc % 256]) := hid (by simp [opt, hm, hs])
      clear hm hs
      go_enter Tryz.func93, Tryz.ntmps93
      have k0 := OB.out.cell 0
      have k1 := OB.out.cell 1
      have k2 := OB.out.cell 2
      have k3 := OB.out.cell 3
      have k4 := OB.out.cell 4
      have k5 := OB.out.cell 5
      have k6 := OB.out.cell 6
      have k7 := OB.out.cell 7
      have k8 := OB.out.cell 8
      have k9 := OB.out.cell 9
      have k10 := OB.out.cell 10
      go_wp2_with fail
      clear k0 k1 k2 k3 k4 k5 k6 k7 k8 k9 k10
      refine (wrt.byte1 _ _ _ _ _ 2 W.out (by simp)).mono ?_
      rintro x w1 ⟨rfl, b1, v1, h1⟩
      have B := hid (B.out.trans b1); have W := hid h1; have OB := hid (OB.out.below b1 hbs); clear b1 h1
      have k0 := OB.out.cell 0
      have k1 := OB.out.cell 1
      have k2 := OB.out.cell 2
      have k3 := OB.out.cell 3
      have k4 := OB.out.cell 4
      have k5 := OB.out.cell 5
      have k6 := OB.out.cell 6
      have k7 := OB.out.cell 7
      have k8 := OB.out.cell 8
      have k9 := OB.out.cell 9
      have k10 := OB.out.cell 10
      go_wp2_with fail
      clear k0 k1 k2 k3 k4 k5 k6 k7 k8 k9 k10
      refine (wrt.byte1 _ _ _ _ _ 4 W.out (by simp)).mono ?_
      rintro x w2 ⟨rfl, b2, v2, h2⟩
      have B := hid (B.out.trans b2); have W := hid h2; have OB := hid (OB.out.below b2 hbs); clear b2 h2
      have k0 := OB.out.cell 0
      have k1 := OB.out.cell 1
      have k2 := OB.out.cell 2
      have k3 := OB.out.cell 3
      have k4 := OB.out.cell 4
      have k5 := OB.out.cell 5
      have k6 := OB.out.cell 6
      have k7 := OB.out.cell 7
      have k8 := OB.out.cell 8
      have k9 := OB.out.cell 9
      have k10 := OB.out.cell 10
      go_wp2_with fail
      clear k0 k1 k2 k3 k4 k5 k6 k7 k8 k9 k10
      refine (wrt.two1 _ _ _ _ _ ms W.out (by simp)).mono ?_
      rintro x w3 ⟨rfl, b3, v3, h3⟩
      have B := hid (B.out.trans b3); have W := hid h3; have OB := hid (OB.out.below b3 hbs); clear b3 h3
      have k0 := OB.out.cell 0
      have k1 := OB.out.cell 1
      have k2 := OB.out.cell 2
      have k3 := OB.out.cell 3
      have k4 := OB.out.cell 4
      have k5 := OB.out.cell 5
      have k6 := OB.out.cell 6
      have k7 := OB.out.cell 7
      have k8 := OB.out.cell 8
      have k9 := OB.out.cell 9
      have k10 := OB.out.cell 10
      go_wp2_with fail
      clear k0 k1 k2 k3 k4 k5 k6 k7 k8 k9 k10
      refine (wrt.byte1 _ _ _ _ _ 1 W.out (by simp)).mono ?_
      rintro x w4 ⟨rfl, b4, v4, h4⟩
      have B := hid (B.out.trans b4); have W := hid h4; have OB := hid (OB.out.below b4 hbs); clear b4 h4
      have k0 := OB.out.cell 0
      have k1 := OB.out.cell 1
      have k2 := OB.out.cell 2
      have k3 := OB.out.cell 3
      have k4 := OB.out.cell 4
      have k5 := OB.out.cell 5
      have k6 := OB.out.cell 6
      have k7 := OB.out.cell 7
      have k8 := OB.out.cell 8
      have k9 := OB.out.cell 9
      have k10 := OB.out.cell 10
      go_wp2_with fail
      clear k0 k1 k2 k3 k4 k5 k6 k7 k8 k9 k10
      refine (wrt.byte1 _ _ _ _ _ 3 W.out (by simp)).mono ?_
      rintro x w5 ⟨rfl, b5, v5, h5⟩
      have B := hid (B.out.trans b5); have W := hid h5; have OB := hid (OB.out.below b5 hbs); clear b5 h5
      have k0 := OB.out.cell 0
      have k1 := OB.out.cell 1
      have k2 := OB.out.cell 2
      have k3 := OB.out.cell 3
      have k4 := OB.out.cell 4
      have k5 := OB.out.cell 5
      have k6 := OB.out.cell 6
      have k7 := OB.out.cell 7
      have k8 := OB.out.cell 8
      have k9 := OB.out.cell 9
      have k10 := OB.out.cell 10
      go_wp2_with fail
      clear k0 k1 k2 k3 k4 k5 k6 k7 k8 k9 k10
      refine (wrt.byte1 _ _ _ _ _ 3 W.out (by simp)).mono ?_
      rintro x w6 ⟨rfl, b6, v6, h6⟩
      have B := hid (B.out.trans b6); have W := hid h6; have OB := hid (OB.out.below b6 hbs); clear b6 h6
      have k0 := OB.out.cell 0
      have k1 := OB.out.cell 1
      have k2 := OB.out.cell 2
      have k3 := OB.out.cell 3
      have k4 := OB.out.cell 4
      have k5 := OB.out.cell 5
      have k6 := OB.out.cell 6
      have k7 := OB.out.cell 7
      have k8 := OB.out.cell 8
      have k9 := OB.out.cell 9
      have k10 := OB.out.cell 10
      go_wp2_with fail
      clear k0 k1 k2 k3 k4 k5 k6 k7 k8 k9 k10
      refine (wrt.byte1 _ _ _ _ _ sc W.out (by simp)).mono ?_
      rintro x w7 ⟨rfl, b7, v7, h7⟩
      have B := hid (B.out.trans b7); have W := hid h7; have OB := hid (OB.out.below b7 hbs); clear b7 h7
      have k0 := OB.out.cell 0
      have k1 := OB.out.cell 1
      have k2 := OB.out.cell 2
      have k3 := OB.out.cell 3
      have k4 := OB.out.cell 4
      have k5 := OB.out.cell 5
      have k6 := OB.out.cell 6
      have k7 := OB.out.cell 7
      have k8 := OB.out.cell 8
      have k9 := OB.out.cell 9
      have k10 := OB.out.cell 10
      go_wp2_with fail
      clear k0 k1 k2 k3 k4 k5 k6 k7 k8 k9 k10
      refine (wrt.bytes1 _ _ _ _ _ W.out (by simp)).mono ?_
      rintro x w20 ⟨v20, rfl, hv, o20⟩
      have V := hid hv; have Q := hid (only_below' Q0.out B.out (by omega))
      have Q2 := hid (Q.out.trans o20); have hq := Q.out.size
      obtain ⟨A20, cap20, ev20, _, _, _, _⟩ := hv.slice
      clear hv o20
      subst ev20
      go_wp2
      go_ret
      exact ⟨_, rfl, by rw [HO.out]; exact V.out.mono_base hq, Q2.out⟩
end Go.Proofs.YtiiajkfaikeenaaGreat.seg
