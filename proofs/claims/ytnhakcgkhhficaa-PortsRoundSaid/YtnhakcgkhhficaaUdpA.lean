/-
  Chapter 11 (udp): a datagram as bytes, by a walk of each text. Conditions: none but those typed.
-/
import Derived.Test.YtnhakcgkhhficaaPsd11
import Derived.Test.YtnhakcgkhhficaaHlp11
import Derived.Test.YtnhakcgkhhficaaStc
namespace Go.Proofs.Ytnhakcgkhhficaa.udp
set_option linter.unusedVariables false
set_option linter.unusedSimpArgs false
open Go.ChangeShapes Go.WideShapes Go.ChangeAt Go.RowKit Go.IntWalk Go.Lib
set_option maxHeartbeats 4000000 in
theorem sums1 (w : World) (fr to : Int) (A : Option Addr) (n c : Nat) (l : List Int) (hl : Rd .u8 w A n l) (hc0 : A = none → c = 0) (hn : n ≤ 100000) :
    Calls Try.prog 37 #[.int .u32 fr, .int .u32 to, .slice A n c] w fun x w' => x = .returned (.int .i64 (oct.sumF (psd.psd fr to 17 n ++ l))) ∧ Only [] w w' := by
  have HLen := hid hl.len
  have HL := hid hl; clear hl
  have HC := hid hc0; clear hc0
  have W : Hid (wrt.Wr (w.alloc (.cells #[.slice none 0 0] 97)) w.heap.size w.heap.size (.slice none 0 0) []) := hid ⟨Ob.new _ _ _, Own.nil _ _ _ _, Nat.le_refl _⟩
  have B : Hid (Below w.heap.size w (w.alloc (.cells #[.slice none 0 0] 97))) := hid ((Below.refl _ _).alloc (Nat.le_refl _) _)
  go_enter Try.func37, Try.ntmps37
  go_wp2_with fail
  refine (wrt.four1 _ _ _ _ _ fr W.out (by simp; try omega)).mono ?_
  rintro x w2 ⟨rfl, b2, v2, h2⟩
  have B := hid (B.out.trans b2); have W := hid h2; clear b2 h2
  go_wp2_with fail
  refine (wrt.four1 _ _ _ _ _ to W.out (by simp; try omega)).mono ?_
  rintro x w3 ⟨rfl, b3, v3, h3⟩
  have B := hid (B.out.trans b3); have W := hid h3; clear b3 h3
  go_wp2_with fail
  refine (wrt.two1 _ _ _ _ _ 17 W.out (by simp; try omega)).mono ?_
  rintro x w4 ⟨rfl, b4, v4, h4⟩
  have B := hid (B.out.trans b4); have W := hid h4; clear b4 h4
  go_wp2_with fail
  refine (wrt.two1 _ _ _ _ _ n W.out (by simp; try omega)).mono ?_
  rintro x w5 ⟨rfl, b5, v5, h5⟩
  have B := hid (B.out.trans b5); have W := hid h5; clear b5 h5
  go_wp2_with fail
  refine (wrt.raw1 _ _ _ _ _ A n c l W.out (by simp; try omega) (HL.out.below B.out (Nat.le_refl _)) HC.out (by omega)).mono ?_
  rintro x w6 ⟨rfl, b6, v6, h6⟩
  have B := hid (B.out.trans b6); have W := hid h6; clear b6 h6
  go_wp2_with fail
  refine (wrt.bytes1 _ _ _ _ _ W.out (by simp [HLen.out]; omega)).mono ?_
  rintro x w20 ⟨v20, rfl, hv, o20⟩
  have Q := hid (only_below' (Only.refl [] w) B.out (Nat.le_refl _))
  have Q2 := hid (Q.out.trans o20)
  have h9 : Own .u8 5 w20 w6.heap.size v20 (psd.psd fr to 17 n ++ l) := by simpa [psd.psd] using hv
  obtain ⟨A20, cap20, ev20, _, _, hr20, _⟩ := h9.slice
  have R20 := hid hr20
  have hpl : (psd.psd fr to 17 n ++ l).length = 12 + n := by simp [psd.psd, HLen.out]; omega
  have HPL := hid hpl; clear hpl
  clear hv o20 h9 hr20
  subst ev20
  generalize hps : psd.psd fr to 17 n ++ l = ps at *
  have HPS := hid hps; clear hps
  go_wp2_with fail
  refine (oct.sum1 _ A20 _ cap20 ps R20.out (by rw [HPL.out]; omega)).mono ?_
  rintro x w21 ⟨rfl, m21, rfl⟩
  go_wp2
  go_ret
  exact ⟨rInt (by rw [HPS.out]), Q2.out.drewN _⟩
/-- A datagram's bytes, with a sum s. -/
def body (fp tp s : Int) (l : List Int) : List Int :=
  fp / 256 % 256 :: fp % 256 :: tp / 256 % 256 :: tp % 256 :: (8 + (l.length : Int)) / 256 % 256 :: (8 + (l.length : Int)) % 256 :: s / 256 % 256 :: s % 256 :: l
theorem body_len (fp tp s : Int) (l : List Int) : (body fp tp s l).length = 8 + l.length := by simp [body]; omega
set_option maxHeartbeats 4000000 in
theorem write1 (w : World) (fr fp to tp : Int) (A : Option Addr) (n c : Nat) (s : Int) (l : List Int) (hl : Rd .u8 w A n l) (hc0 : A = none → c = 0) (hn : n ≤ 70000) :
    Calls Try.prog 38 #[.agg #[.int .u32 fr, .int .i64 fp, .int .u32 to, .int .i64 tp, .slice A n c], .int .i64 s] w fun x w' => ∃ v, x = .returned v ∧ Own .u8 5 w' w.heap.size v (body fp tp s l) ∧ Only [] w w' := by
  have HLen := hid hl.len
  have HL := hid hl; clear hl
  have HC := hid hc0; clear hc0
  have OB : Hid (Ob ((w.alloc (.cells #[.int .u32 fr, .int .i64 fp, .int .u32 to, .int .i64 tp, .slice A n c] 32)).alloc (.cells #[.slice none 0 0] 97)) w.heap.size 32 #[.int .u32 fr, .int .i64 fp, .int .u32 to, .int .i64 tp, .slice A n c]) := hid ((Ob.new _ _ _).alloc _)
  have Q1 : Hid (Only [] w (w.alloc (.cells #[.int .u32 fr, .int .i64 fp, .int .u32 to, .int .i64 tp, .slice A n c] 32))) := hid ((Only.refl [] w).alloc _)
  have hbs : w.heap.size < w.heap.size + 1 := by omega
  have W : Hid (wrt.Wr ((w.alloc (.cells #[.int .u32 fr, .int .i64 fp, .int .u32 to, .int .i64 tp, .slice A n c] 32)).alloc (.cells #[.slice none 0 0] 97)) (w.heap.size + 1) (w.heap.size + 1) (.slice none 0 0) []) := hid ⟨by simpa using Ob.new (w.alloc (.cells #[.int .u32 fr, .int .i64 fp, .int .u32 to, .int .i64 tp, .slice A n c] 32)) _ _, Own.nil _ _ _ _, Nat.le_refl _⟩
  have B : Hid (Below (w.heap.size + 1) (w.alloc (.cells #[.int .u32 fr, .int .i64 fp, .int .u32 to, .int .i64 tp, .slice A n c] 32)) ((w.alloc (.cells #[.int .u32 fr, .int .i64 fp, .int .u32 to, .int .i64 tp, .slice A n c] 32)).alloc (.cells #[.slice none 0 0] 97))) := hid ((Below.refl _ _).alloc (by simp) _)
  have HL1 := hid (HL.out.only_nil Q1.out)
  go_enter Try.func38, Try.ntmps38
  have k0 := OB.out.cell 0; have k1 := OB.out.cell 1; have k2 := OB.out.cell 2; have k3 := OB.out.cell 3; have k4 := OB.out.cell 4
  go_wp2_with fail
  clear k0 k1 k2 k3 k4
  refine (wrt.two1 _ _ _ _ _ fp W.out (by simp; try omega)).mono ?_
  rintro x w2 ⟨rfl, b2, v2, h2⟩
  have OB := hid (Ob.below OB.out b2 hbs); have B := hid (B.out.trans b2); have W := hid h2; clear b2 h2
  have k0 := OB.out.cell 0; have k1 := OB.out.cell 1; have k2 := OB.out.cell 2; have k3 := OB.out.cell 3; have k4 := OB.out.cell 4
  go_wp2_with fail
  clear k0 k1 k2 k3 k4
  refine (wrt.two1 _ _ _ _ _ tp W.out (by simp; try omega)).mono ?_
  rintro x w3 ⟨rfl, b3, v3, h3⟩
  have OB := hid (Ob.below OB.out b3 hbs); have B := hid (B.out.trans b3); have W := hid h3; clear b3 h3
  have k0 := OB.out.cell 0; have k1 := OB.out.cell 1; have k2 := OB.out.cell 2; have k3 := OB.out.cell 3; have k4 := OB.out.cell 4
  go_wp2_with fail
  clear k0 k1 k2 k3 k4
  refine (wrt.two1 _ _ _ _ _ (8 + (n : Int)) W.out (by simp; try omega)).mono ?_
  rintro x w4 ⟨rfl, b4, v4, h4⟩
  have OB := hid (Ob.below OB.out b4 hbs); have B := hid (B.out.trans b4); have W := hid h4; clear b4 h4
  have k0 := OB.out.cell 0; have k1 := OB.out.cell 1; have k2 := OB.out.cell 2; have k3 := OB.out.cell 3; have k4 := OB.out.cell 4
  go_wp2_with fail
  clear k0 k1 k2 k3 k4
  refine (wrt.two1 _ _ _ _ _ s W.out (by simp; try omega)).mono ?_
  rintro x w5 ⟨rfl, b5, v5, h5⟩
  have OB := hid (Ob.below OB.out b5 hbs); have B := hid (B.out.trans b5); have W := hid h5; clear b5 h5
  have k0 := OB.out.cell 0; have k1 := OB.out.cell 1; have k2 := OB.out.cell 2; have k3 := OB.out.cell 3; have k4 := OB.out.cell 4
  go_wp2_with fail
  clear k0 k1 k2 k3 k4
  refine (wrt.raw1 _ _ _ _ _ A n c l W.out (by simp; try omega) (HL1.out.below B.out (by simp)) HC.out (by omega)).mono ?_
  rintro x w6 ⟨rfl, b6, v6, h6⟩
  have OB := hid (Ob.below OB.out b6 hbs); have B := hid (B.out.trans b6); have W := hid h6; clear b6 h6
  go_wp2_with fail
  refine (wrt.bytes1 _ _ _ _ _ W.out (by simp [HLen.out]; omega)).mono ?_
  rintro x w20 ⟨v20, rfl, hv, o20⟩
  have V := hid hv; have Q := hid (only_below' Q1.out B.out (by simp))
  have Q2 := hid (Q.out.trans o20); have hq := Q.out.size
  obtain ⟨A20, cap20, ev20, _, _, _, _⟩ := hv.slice
  clear hv o20
  subst ev20
  go_wp2
  go_ret
  refine ⟨_, rfl, ?_, Q2.out⟩
  refine Own.mono_base ?_ hq
  have h9 := V.out
  simpa [body, HLen.out] using h9
end Go.Proofs.Ytnhakcgkhhficaa.udp
