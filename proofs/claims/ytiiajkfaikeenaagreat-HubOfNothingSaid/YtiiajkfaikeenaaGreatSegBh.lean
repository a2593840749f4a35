/-
  Chapter 14 (segment): a segment as bytes, by a walk of each text. Conditions: none but those typed.
-/
import Derived.Test.YtiiajkfaikeenaaGreatSegAh
namespace Go.Proofs.YtiiajkfaikeenaaGreat.seg
set_option linter.unusedVariables false
set_option linter.unusedSimpArgs false
open Go.ChangeShapes Go.WideShapes Go.ChangeAt Go.RowKit Go.IntWalk Go.Lib
/-- A segment's bytes, with a sum s, options o and data l. -/
def body (fp tp sq ac fl wi s : Int) (o l : List Int) : List Int :=
  fp / 256 % 256 :: fp % 256 :: tp / 256 % 256 :: tp % 256 :: sq / 16777216 % 256 :: sq / 65536 % 256 :: sq / 256 % 256 :: sq % 256 :: ac / 16777216 % 256 :: ac / 65536 % 256 :: ac / 256 % 256 :: ac % 256 ::
    (20 + (o.length : Int)) / 4 * 16 % 256 :: fl % 256 :: wi / 256 % 256 :: wi % 256 :: s / 256 % 256 :: s % 256 :: 0 :: 0 :: (o ++ l)
theorem body_len (fp tp sq ac fl wi s : Int) (o l : List Int) : (body fp tp sq ac fl wi s o l).length = 20 + o.length + l.length := by
  simp [body]; omega
theorem body_wf (fp tp sq ac fl wi s : Int) (o l : List Int) (ho : ∀ z ∈ o, (Lit.int .u8 z).wf = true) (hl : ∀ z ∈ l, (Lit.int .u8 z).wf = true) : ∀ z ∈ body fp tp sq ac fl wi s o l, (Lit.int .u8 z).wf = true := by
  intro z hz
  unfold body at hz
  simp only [List.mem_cons, List.mem_append] at hz
  repeat (rcases hz with hz | hz; · (subst hz; apply hlp.u8wf; omega))
  rcases hz with hz | hz
  · exact ho z hz
  · exact hl z hz
set_option maxHeartbeats 4000000 in
theorem write1 (w : World) (fr to sq ac : Int) (fp tp fl wi ms sc : Int) (A : Option Addr) (n c : Nat) (s : Int) (l : List Int) (hl : Rd .u8 w A n l) (hc0 : A = none → c = 0) (hn : n ≤ 70000) :
    Calls Tryz.prog 67 #[.agg #[.int .u32 fr, .int .i64 fp, .int .u32 to, .int .i64 tp, .int .u32 sq, .int .u32 ac, .int .i64 fl, .int .i64 wi, .int .i64 ms, .int .i64 sc, .slice A n c], .int .i64 s] w fun x w' => ∃ v, x = .returned v ∧ Own .u8 5 w' w.heap.size v (body fp tp sq ac fl wi s (opt ms sc) l) ∧ Only [] w w' := by
  have HLen := hid hl.len
  have HL := hid hl; clear hl
  have HC := hid hc0; clear hc0
  have OB : Hid (Ob (w.alloc (.cells #[.int .u32 fr, .int .i64 fp, .int .u32 to, .int .i64 tp, .int .u32 sq, .int .u32 ac, .int .i64 fl, .int .i64 wi, .int .i64 ms, .int .i64 sc, .slice A n c] 28)) w.heap.size 28 #[.int .u32 fr, .int .i64 fp, .int .u32 to, .int .i64 tp, .int .u32 sq, .int .u32 ac, .int .i64 fl, .int .i64 wi, .int .i64 ms, .int .i64 sc, .slice A n c]) := hid (Ob.new _ _ _)
  have QB : Hid (Only [] w (w.alloc (.cells #[.int .u32 fr, .int .i64 fp, .int .u32 to, .int .i64 tp, .int .u32 sq, .int .u32 ac, .int .i64 fl, .int .i64 wi, .int .i64 ms, .int .i64 sc, .slice A n c] 28))) := hid ((Only.refl [] w).alloc _)
  go_enter Tryz.func67, Tryz.ntmps67
  go_wp2_with fail
  refine (opts1 _ fr to sq ac fp tp fl wi ms sc A n c).mono ?_
  rintro x w1 ⟨vo, rfl, ho, o1⟩
  have hbs : w.heap.size < w1.heap.size := by have := o1.size; simp at this; omega
  obtain ⟨Ao, co, evo, _, _, hro, _⟩ := ho.slice
  have hco : Ao = none → co = 0 := by
    intro h
    rcases ho.1.2 with ⟨hv, _⟩ | ⟨g', cap', cur, hv, _⟩
    · rw [evo] at hv; injection hv
    · rw [evo, h] at hv; cases hv
  have RO := hid hro; have HCO := hid hco; have OB := hid (OB.out.only o1 (by simp)); have Q1 := hid (QB.out.trans o1)
  have HL1 := hid (HL.out.only_nil Q1.out)
  clear ho o1 hro hco
  subst evo
  have HOL := hid (opt_len ms sc)
  generalize hop : opt ms sc = op at *
  have HOP := hid hop; clear hop
  have hol := HOL.out
  have W : Hid (wrt.Wr (w1.alloc (.cells #[.slice none 0 0] 153)) w1.heap.size w1.heap.size (.slice none 0 0) []) := hid ⟨Ob.new _ _ _, Own.nil _ _ _ _, Nat.le_refl _⟩
  have B : Hid (Below w1.heap.size w1 (w1.alloc (.cells #[.slice none 0 0] 153))) := hid ((Below.refl _ _).alloc (Nat.le_refl _) _)
  have OB := hid (OB.out.alloc (.cells #[.slice none 0 0] 153))
  have k0 := OB.out.cell 0
  have k1 := OB.out.cell 1
  have k2 := OB.out.cell 2
  have k3 := OB.out.cell 3
  have k4 := OB.out.cell 4
  have k5 := OB.out.cell 5
  have k6 := OB.out.cell 6
  have k7 := OB.out.cell 7
  have k8 := OB.out.cell 8
  have k9 := OB.out.cell 9
  have k10 := OB.out.cell 10
  go_wp2_with fail
  clear k0 k1 k2 k3 k4 k5 k6 k7 k8 k9 k10
  refine (wrt.two1 _ _ _ _ _ fp W.out (by simp; try omega)).mono ?_
  rintro x w2 ⟨rfl, b2, v2, h2⟩
  have B := hid (B.out.trans b2); have W := hid h2; have OB := hid (OB.out.below b2 hbs); clear b2 h2
  have k0 := OB.out.cell 0
  have k1 := OB.out.cell 1
  have k2 := OB.out.cell 2
  have k3 := OB.out.cell 3
  have k4 := OB.out.cell 4
  have k5 := OB.out.cell 5
  have k6 := OB.out.cell 6
  have k7 := OB.out.cell 7
  have k8 := OB.out.cell 8
  have k9 := OB.out.cell 9
  have k10 := OB.out.cell 10
  go_wp2_with fail
  clear k0 k1 k2 k3 k4 k5 k6 k7 k8 k9 k10
  refine (wrt.two1 _ _ _ _ _ tp W.out (by simp; try omega)).mono ?_
  rintro x w3 ⟨rfl, b3, v3, h3⟩
  have B := hid (B.out.trans b3); have W := hid h3; have OB := hid (OB.out.below b3 hbs); clear b3 h3
  have k0 := OB.out.cell 0
  have k1 := OB.out.cell 1
  have k2 := OB.out.cell 2
  have k3 := OB.out.cell 3
  have k4 := OB.out.cell 4
  have k5 := OB.out.cell 5
  have k6 := OB.out.cell 6
  have k7 := OB.out.cell 7
  have k8 := OB.out.cell 8
  have k9 := OB.out.cell 9
  have k10 := OB.out.cell 10
  go_wp2_with fail
  clear k0 k1 k2 k3 k4 k5 k6 k7 k8 k9 k10
  refine (wrt.four1 _ _ _ _ _ sq W.out (by simp; try omega)).mono ?_
  rintro x w4 ⟨rfl, b4, v4, h4⟩
  have B := hid (B.out.trans b4); have W := hid h4; have OB := hid (OB.out.below b4 hbs); clear b4 h4
  have k0 := OB.out.cell 0
  have k1 := OB.out.cell 1
  have k2 := OB.out.cell 2
  have k3 := OB.out.cell 3
  have k4 := OB.out.cell 4
  have k5 := OB.out.cell 5
  have k6 := OB.out.cell 6
  have k7 := OB.out.cell 7
  have k8 := OB.out.cell 8
  have k9 := OB.out.cell 9
  have k10 := OB.out.cell 10
  go_wp2_with fail
  clear k0 k1 k2 k3 k4 k5 k6 k7 k8 k9 k10
  refine (wrt.four1 _ _ _ _ _ ac W.out (by simp; try omega)).mono ?_
  rintro x w5 ⟨rfl, b5, v5, h5⟩
  have B := hid (B.out.trans b5); have W := hid h5; have OB := hid (OB.out.below b5 hbs); clear b5 h5
  have k0 := OB.out.cell 0
  have k1 := OB.out.cell 1
  have k2 := OB.out.cell 2
  have k3 := OB.out.cell 3
  have k4 := OB.out.cell 4
  have k5 := OB.out.cell 5
  have k6 := OB.out.cell 6
  have k7 := OB.out.cell 7
  have k8 := OB.out.cell 8
  have k9 := OB.out.cell 9
  have k10 := OB.out.cell 10
  go_wp2_with fail
  clear k0 k1 k2 k3 k4 k5 k6 k7 k8 k9 k10
  refine (wrt.byte1 _ _ _ _ _ _ W.out (by simp; try omega)).mono ?_
  rintro x w6 ⟨rfl, b6, v6, h6⟩
  have B := hid (B.out.trans b6); have W := hid h6; have OB := hid (OB.out.below b6 hbs); clear b6 h6
  have k0 := OB.out.cell 0
  have k1 := OB.out.cell 1
  have k2 := OB.out.cell 2
  have k3 := OB.out.cell 3
  have k4 := OB.out.cell 4
  have k5 := OB.out.cell 5
  have k6 := OB.out.cell 6
  have k7 := OB.out.cell 7
  have k8 := OB.out.cell 8
  have k9 := OB.out.cell 9
  have k10 := OB.out.cell 10
  go_wp2_with fail
  clear k0 k1 k2 k3 k4 k5 k6 k7 k8 k9 k10
  refine (wrt.byte1 _ _ _ _ _ fl W.out (by simp; try omega)).mono ?_
  rintro x w7 ⟨rfl, b7, v7, h7⟩
  have B := hid (B.out.trans b7); have W := hid h7; have OB := hid (OB.out.below b7 hbs); clear b7 h7
  have k0 := OB.out.cell 0
  have k1 := OB.out.cell 1
  have k2 := OB.out.cell 2
  have k3 := OB.out.cell 3
  have k4 := OB.out.cell 4
  have k5 := OB.out.cell 5
  have k6 := OB.out.cell 6
  have k7 := OB.out.cell 7
  have k8 := OB.out.cell 8
  have k9 := OB.out.cell 9
  have k10 := OB.out.cell 10
  go_wp2_with fail
  clear k0 k1 k2 k3 k4 k5 k6 k7 k8 k9 k10
  refine (wrt.two1 _ _ _ _ _ wi W.out (by simp; try omega)).mono ?_
  rintro x w8 ⟨rfl, b8, v8, h8⟩
  have B := hid (B.out.trans b8); have W := hid h8; have OB := hid (OB.out.below b8 hbs); clear b8 h8
  have k0 := OB.out.cell 0
  have k1 := OB.out.cell 1
  have k2 := OB.out.cell 2
  have k3 := OB.out.cell 3
  have k4 := OB.out.cell 4
  have k5 := OB.out.cell 5
  have k6 := OB.out.cell 6
  have k7 := OB.out.cell 7
  have k8 := OB.out.cell 8
  have k9 := OB.out.cell 9
  have k10 := OB.out.cell 10
  go_wp2_with fail
  clear k0 k1 k2 k3 k4 k5 k6 k7 k8 k9 k10
  refine (wrt.two1 _ _ _ _ _ s W.out (by simp; try omega)).mono ?_
  rintro x w9 ⟨rfl, b9, v9, h9⟩
  have B := hid (B.out.trans b9); have W := hid h9; have OB := hid (OB.out.below b9 hbs); clear b9 h9
  have k0 := OB.out.cell 0
  have k1 := OB.out.cell 1
  have k2 := OB.out.cell 2
  have k3 := OB.out.cell 3
  have k4 := OB.out.cell 4
  have k5 := OB.out.cell 5
  have k6 := OB.out.cell 6
  have k7 := OB.out.cell 7
  have k8 := OB.out.cell 8
  have k9 := OB.out.cell 9
  have k10 := OB.out.cell 10
  go_wp2_with fail
  clear k0 k1 k2 k3 k4 k5 k6 k7 k8 k9 k10
  refine (wrt.two1 _ _ _ _ _ 0 W.out (by simp; try omega)).mono ?_
  rintro x w10 ⟨rfl, b10, v10, h10⟩
  have B := hid (B.out.trans b10); have W := hid h10; have OB := hid (OB.out.below b10 hbs); clear b10 h10
  have k0 := OB.out.cell 0
  have k1 := OB.out.cell 1
  have k2 := OB.out.cell 2
  have k3 := OB.out.cell 3
  have k4 := OB.out.cell 4
  have k5 := OB.out.cell 5
  have k6 := OB.out.cell 6
  have k7 := OB.out.cell 7
  have k8 := OB.out.cell 8
  have k9 := OB.out.cell 9
  have k10 := OB.out.cell 10
  go_wp2_with fail
  clear k0 k1 k2 k3 k4 k5 k6 k7 k8 k9 k10
  refine (wrt.raw1 _ _ _ _ _ Ao op.length co op W.out (by simp; try omega) (RO.out.below B.out (Nat.le_refl _)) HCO.out (by omega)).mono ?_
  rintro x w11 ⟨rfl, b11, v11, h11⟩
  have B := hid (B.out.trans b11); have W := hid h11; have OB := hid (OB.out.below b11 hbs); clear b11 h11
  have k0 := OB.out.cell 0
  have k1 := OB.out.cell 1
  have k2 := OB.out.cell 2
  have k3 := OB.out.cell 3
  have k4 := OB.out.cell 4
  have k5 := OB.out.cell 5
  have k6 := OB.out.cell 6
  have k7 := OB.out.cell 7
  have k8 := OB.out.cell 8
  have k9 := OB.out.cell 9
  have k10 := OB.out.cell 10
  go_wp2_with fail
  clear k0 k1 k2 k3 k4 k5 k6 k7 k8 k9 k10
  refine (wrt.raw1 _ _ _ _ _ A n c l W.out (by simp; try omega) (HL1.out.below B.out (Nat.le_refl _)) HC.out (by omega)).mono ?_
  rintro x w12 ⟨rfl, b12, v12, h12⟩
  have B := hid (B.out.trans b12); have W := hid h12; have OB := hid (OB.out.below b12 hbs); clear b12 h12
  have k0 := OB.out.cell 0
  have k1 := OB.out.cell 1
  have k2 := OB.out.cell 2
  have k3 := OB.out.cell 3
  have k4 := OB.out.cell 4
  have k5 := OB.out.cell 5
  have k6 := OB.out.cell 6
  have k7 := OB.out.cell 7
  have k8 := OB.out.cell 8
  have k9 := OB.out.cell 9
  have k10 := OB.out.cell 10
  go_wp2_with fail
  clear k0 k1 k2 k3 k4 k5 k6 k7 k8 k9 k10
  refine (wrt.bytes1 _ _ _ _ _ W.out (by simp [HLen.out]; omega)).mono ?_
  rintro x w20 ⟨v20, rfl, hv, o20⟩
  have V := hid hv; have Q := hid (only_below' Q1.out B.out (by omega))
  have Q2 := hid (Q.out.trans o20); have hq := Q.out.size
  obtain ⟨A20, cap20, ev20, _, _, _, _⟩ := hv.slice
  clear hv o20
  subst ev20
  have HE : Hid (body fp tp sq ac fl wi s op l = _) := hid rfl
  go_wp2
  go_ret
  refine ⟨_, rfl, ?_, Q2.out⟩
  rw [HOP.out]
  refine Own.mono_base ?_ hq
  have h9 := V.out
  simpa [body] using h9
end Go.Proofs.YtiiajkfaikeenaaGreat.seg
