/-
  Chapter 23 (lease): Encode of the program, by a walk of its text. Conditions: none but those typed.
-/
import Derived.Test.YtdpmjghdmpaehaaLsA
namespace Go.Proofs.Ytdpmjghdmpaehaa
theorem wrt.Wr.of_eq {w : World} {g base : Nat} {v : Value} {l l' : List Int} (h : wrt.Wr w g base v l) (e : l = l') : wrt.Wr w g base v l' := e ▸ h
end Go.Proofs.Ytdpmjghdmpaehaa
namespace Go.Proofs.Ytdpmjghdmpaehaa.ls
set_option linter.unusedVariables false
set_option linter.unusedSimpArgs false
open Go.ChangeShapes Go.WideShapes Go.ChangeAt Go.RowKit Go.IntWalk Go.Lib
theorem zr_wf (n : Nat) : ∀ z ∈ zr n, (Lit.int .u8 z).wf = true := fun z hz => by
  rw [(List.mem_replicate.1 hz).2]; rfl
theorem four_wf (v : Int) : ∀ z ∈ [v / 16777216 % 256, v / 65536 % 256, v / 256 % 256, v % 256], (Lit.int .u8 z).wf = true := by
  intro z hz
  simp only [List.mem_cons, List.not_mem_nil, or_false] at hz
  apply (Lit.wf_int_iff .u8 z).2
  show 0 ≤ z ∧ z ≤ 255
  omega
theorem lit4 (wr : World) (o : Obj) (x1 x2 x3 x4 : Int) (h : ∀ z ∈ [x1, x2, x3, x4], (Lit.int .u8 z).wf = true) : Rd .u8 ((wr.alloc o).alloc (.cells #[.int .u8 x1, .int .u8 x2, .int .u8 x3, .int .u8 x4] 5)) (some ⟨wr.heap.size + 1, 0, none⟩) 4 [x1, x2, x3, x4] := by
  have h9 := Own.lit .u8 5 (wr.alloc o) 0 [x1, x2, x3, x4] #[.int .u8 x1, .int .u8 x2, .int .u8 x3, .int .u8 x4] 4 rfl rfl (Nat.zero_le _) (by simp [maxLen]) h
  simpa using h9.rd
theorem mk8 (W : World) : (Instr.makeSlice 28 (.int .i64 8) (.int .i64 8)).run Try.prog W = .ok (.slice (some ⟨W.heap.size, 0, none⟩) 8 8) (W.alloc (.cells (rowV .u8 (zr 8)) 5)) := run_mkB W 8 (by omega)
theorem mk202 (W : World) : (Instr.makeSlice 28 (.int .i64 202) (.int .i64 202)).run Try.prog W = .ok (.slice (some ⟨W.heap.size, 0, none⟩) 202 202) (W.alloc (.cells (rowV .u8 (zr 202)) 5)) := run_mkB W 202 (by omega)
/-- The first k of the options. -/
def optK (sv ak ti mk ro re : Int) (k : Nat) : List Int := (if 0 < k then opt 54 sv else []) ++ (if 1 < k then opt 50 ak else []) ++ (if 2 < k then opt 51 ti else []) ++ (if 3 < k then opt 1 mk else []) ++ (if 4 < k then opt 3 ro else []) ++ (if 5 < k then opt 6 re else [])
theorem optK_len (sv ak ti mk ro re : Int) (k : Nat) : (optK sv ak ti mk ro re k).length ≤ 36 := by
  have h1 := opt_len 54 sv; have h2 := opt_len 50 ak; have h3 := opt_len 51 ti; have h4 := opt_len 1 mk; have h5 := opt_len 3 ro; have h6 := opt_len 6 re
  have hh : ∀ (b : Prop) [Decidable b] (l : List Int), l.length ≤ 6 → (if b then l else []).length ≤ 6 := fun b _ l h => by split <;> simp [h]
  unfold optK
  simp only [List.length_append]
  have := hh (0 < k) _ h1; have := hh (1 < k) _ h2; have := hh (2 < k) _ h3; have := hh (3 < k) _ h4; have := hh (4 < k) _ h5; have := hh (5 < k) _ h6
  omega
set_option maxRecDepth 100000 in
set_option maxHeartbeats 16000000 in
theorem enc1 (w : World) (op id yo c0 c1 c2 c3 c4 c5 ty sv ak ti mk ro re : Int) (hg : Good op ty ti) (hc : ∀ z ∈ [c0, c1, c2, c3, c4, c5], (Lit.int .u8 z).wf = true) :
    Calls Try.prog 10 #[.agg #[.int .i64 op, .int .u32 id, .int .u32 yo, .int .u8 c0, .int .u8 c1, .int .u8 c2, .int .u8 c3, .int .u8 c4, .int .u8 c5, .int .i64 ty, .int .u32 sv, .int .u32 ak, .int .i64 ti, .int .u32 mk, .int .u32 ro, .int .u32 re]] w fun x w' => ∃ v, x = .returned (.tuple #[v, .int .i64 0]) ∧ Own .u8 5 w' w.heap.size v (enc op id yo c0 c1 c2 c3 c4 c5 ty sv ak ti mk ro re) ∧ Only [] w w' := by
  have HG := hid hg; have HCc := hid hc
  have hty := hg.2.1; have hti := hg.2.2
  have hop := hg.1
  clear hg hc
  have hm8 := mk8; have hm202 := mk202
  have hbs : w.heap.size < w.heap.size + 1 := by omega
  have OB0 : Hid (Ob (w.alloc (.cells #[.int .i64 op, .int .u32 id, .int .u32 yo, .int .u8 c0, .int .u8 c1, .int .u8 c2, .int .u8 c3, .int .u8 c4, .int .u8 c5, .int .i64 ty, .int .u32 sv, .int .u32 ak, .int .i64 ti, .int .u32 mk, .int .u32 ro, .int .u32 re] 27)) w.heap.size 27 #[.int .i64 op, .int .u32 id, .int .u32 yo, .int .u8 c0, .int .u8 c1, .int .u8 c2, .int .u8 c3, .int .u8 c4, .int .u8 c5, .int .i64 ty, .int .u32 sv, .int .u32 ak, .int .i64 ti, .int .u32 mk, .int .u32 ro, .int .u32 re]) := hid (Ob.new _ _ _)
  have OB : Hid (Ob ((w.alloc (.cells #[.int .i64 op, .int .u32 id, .int .u32 yo, .int .u8 c0, .int .u8 c1, .int .u8 c2, .int .u8 c3, .int .u8 c4, .int .u8 c5, .int .i64 ty, .int .u32 sv, .int .u32 ak, .int .i64 ti, .int .u32 mk, .int .u32 ro, .int .u32 re] 27)).alloc (.cells #[.slice none 0 0] 63)) w.heap.size 27 #[.int .i64 op, .int .u32 id, .int .u32 yo, .int .u8 c0, .int .u8 c1, .int .u8 c2, .int .u8 c3, .int .u8 c4, .int .u8 c5, .int .i64 ty, .int .u32 sv, .int .u32 ak, .int .i64 ti, .int .u32 mk, .int .u32 ro, .int .u32 re]) := hid ((Ob.new _ _ _).alloc _)
  have Q1 : Hid (Only [] w (w.alloc (.cells #[.int .i64 op, .int .u32 id, .int .u32 yo, .int .u8 c0, .int .u8 c1, .int .u8 c2, .int .u8 c3, .int .u8 c4, .int .u8 c5, .int .i64 ty, .int .u32 sv, .int .u32 ak, .int .i64 ti, .int .u32 mk, .int .u32 ro, .int .u32 re] 27))) := hid ((Only.refl [] w).alloc _)
  have W : Hid (wrt.Wr ((w.alloc (.cells #[.int .i64 op, .int .u32 id, .int .u32 yo, .int .u8 c0, .int .u8 c1, .int .u8 c2, .int .u8 c3, .int .u8 c4, .int .u8 c5, .int .i64 ty, .int .u32 sv, .int .u32 ak, .int .i64 ti, .int .u32 mk, .int .u32 ro, .int .u32 re] 27)).alloc (.cells #[.slice none 0 0] 63)) (w.heap.size + 1) (w.heap.size + 1) (.slice none 0 0) []) := hid ⟨by simpa using Ob.new (w.alloc (.cells #[.int .i64 op, .int .u32 id, .int .u32 yo, .int .u8 c0, .int .u8 c1, .int .u8 c2, .int .u8 c3, .int .u8 c4, .int .u8 c5, .int .i64 ty, .int .u32 sv, .int .u32 ak, .int .i64 ti, .int .u32 mk, .int .u32 ro, .int .u32 re] 27)) _ _, Own.nil _ _ _ _, Nat.le_refl _⟩
  have B : Hid (Below (w.heap.size + 1) (w.alloc (.cells #[.int .i64 op, .int .u32 id, .int .u32 yo, .int .u8 c0, .int .u8 c1, .int .u8 c2, .int .u8 c3, .int .u8 c4, .int .u8 c5, .int .i64 ty, .int .u32 sv, .int .u32 ak, .int .i64 ti, .int .u32 mk, .int .u32 ro, .int .u32 re] 27)) ((w.alloc (.cells #[.int .i64 op, .int .u32 id, .int .u32 yo, .int .u8 c0, .int .u8 c1, .int .u8 c2, .int .u8 c3, .int .u8 c4, .int .u8 c5, .int .i64 ty, .int .u32 sv, .int .u32 ak, .int .i64 ti, .int .u32 mk, .int .u32 ro, .int .u32 re] 27)).alloc (.cells #[.slice none 0 0] 63))) := hid ((Below.refl _ _).alloc (by simp) _)
  have hopm : op % 256 = op := by omega
  have htym : ty % 256 = ty := by omega
  have htim : ti % 4294967296 = ti := by omega
  have ht1 : (1 ≤ ty ∧ ty ≤ 7) := hty
  have hd1 : decide (1 ≤ ty ∧ ty ≤ 7) = true := decide_eq_true hty
  have htl : ¬ ti < 0 := by omega
  have htg : ¬ 2147483647 < ti := by omega
  rcases hop with hop | hop
  · have ho1 : (op != 1) = false := by simp [hop]
    clear hop
    go_enter Try.func10, Try.ntmps10
    have k0 := OB0.out.cell 0; have k1 := OB0.out.cell 1; have k2 := OB0.out.cell 2; have k3 := OB0.out.cell 3; have k4 := OB0.out.cell 4; have k5 := OB0.out.cell 5; have k6 := OB0.out.cell 6; have k7 := OB0.out.cell 7; have k8 := OB0.out.cell 8; have k9 := OB0.out.cell 9; have k10 := OB0.out.cell 10; have k11 := OB0.out.cell 11; have k12 := OB0.out.cell 12; have k13 := OB0.out.cell 13; have k14 := OB0.out.cell 14; have k15 := OB0.out.cell 15
    go_wp2_with fail
    refine (type1 _ ty).mono ?_
    rintro x w1 ⟨rfl, hw1⟩
    subst hw1
    rw [hd1]
    go_wp2_with fail
    clear k0 k1 k2 k3 k4 k5 k6 k7 k8 k9 k10 k11 k12 k13 k14 k15
    refine (wrt.byte1 _ _ _ _ _ op W.out (by simp)).mono ?_
    rintro x w2 ⟨rfl, b2, v2, h2⟩
    have OB := hid (Ob.below OB.out b2 hbs); have B := hid (B.out.trans b2); have W := hid h2; clear b2 h2
    have k0 := OB.out.cell 0; have k1 := OB.out.cell 1; have k2 := OB.out.cell 2; have k3 := OB.out.cell 3; have k4 := OB.out.cell 4; have k5 := OB.out.cell 5; have k6 := OB.out.cell 6; have k7 := OB.out.cell 7; have k8 := OB.out.cell 8; have k9 := OB.out.cell 9; have k10 := OB.out.cell 10; have k11 := OB.out.cell 11; have k12 := OB.out.cell 12; have k13 := OB.out.cell 13; have k14 := OB.out.cell 14; have k15 := OB.out.cell 15
    go_wp2_with fail
    clear k0 k1 k2 k3 k4 k5 k6 k7 k8 k9 k10 k11 k12 k13 k14 k15
    refine (wrt.byte1 _ _ _ _ _ 1 W.out (by simp [zr_len]; try omega)).mono ?_
    rintro x w3 ⟨rfl, b3, v3, h3⟩
    have OB := hid (Ob.below OB.out b3 hbs); have B := hid (B.out.trans b3); have W := hid h3; clear b3 h3
    have k0 := OB.out.cell 0; have k1 := OB.out.cell 1; have k2 := OB.out.cell 2; have k3 := OB.out.cell 3; have k4 := OB.out.cell 4; have k5 := OB.out.cell 5; have k6 := OB.out.cell 6; have k7 := OB.out.cell 7; have k8 := OB.out.cell 8; have k9 := OB.out.cell 9; have k10 := OB.out.cell 10; have k11 := OB.out.cell 11; have k12 := OB.out.cell 12; have k13 := OB.out.cell 13; have k14 := OB.out.cell 14; have k15 := OB.out.cell 15
    go_wp2_with fail
    clear k0 k1 k2 k3 k4 k5 k6 k7 k8 k9 k10 k11 k12 k13 k14 k15
    refine (wrt.byte1 _ _ _ _ _ 6 W.out (by simp [zr_len]; try omega)).mono ?_
    rintro x w4 ⟨rfl, b4, v4, h4⟩
    have OB := hid (Ob.below OB.out b4 hbs); have B := hid (B.out.trans b4); have W := hid h4; clear b4 h4
    have k0 := OB.out.cell 0; have k1 := OB.out.cell 1; have k2 := OB.out.cell 2; have k3 := OB.out.cell 3; have k4 := OB.out.cell 4; have k5 := OB.out.cell 5; have k6 := OB.out.cell 6; have k7 := OB.out.cell 7; have k8 := OB.out.cell 8; have k9 := OB.out.cell 9; have k10 := OB.out.cell 10; have k11 := OB.out.cell 11; have k12 := OB.out.cell 12; have k13 := OB.out.cell 13; have k14 := OB.out.cell 14; have k15 := OB.out.cell 15
    go_wp2_with fail
    clear k0 k1 k2 k3 k4 k5 k6 k7 k8 k9 k10 k11 k12 k13 k14 k15
    refine (wrt.byte1 _ _ _ _ _ 0 W.out (by simp [zr_len]; try omega)).mono ?_
    rintro x w5 ⟨rfl, b5, v5, h5⟩
    have OB := hid (Ob.below OB.out b5 hbs); have B := hid (B.out.trans b5); have W := hid h5; clear b5 h5
    have k0 := OB.out.cell 0; have k1 := OB.out.cell 1; have k2 := OB.out.cell 2; have k3 := OB.out.cell 3; have k4 := OB.out.cell 4; have k5 := OB.out.cell 5; have k6 := OB.out.cell 6; have k7 := OB.out.cell 7; have k8 := OB.out.cell 8; have k9 := OB.out.cell 9; have k10 := OB.out.cell 10; have k11 := OB.out.cell 11; have k12 := OB.out.cell 12; have k13 := OB.out.cell 13; have k14 := OB.out.cell 14; have k15 := OB.out.cell 15
    go_wp2_with fail
    clear k0 k1 k2 k3 k4 k5 k6 k7 k8 k9 k10 k11 k12 k13 k14 k15
    refine (wrt.four1 _ _ _ _ _ id W.out (by simp [zr_len]; try omega)).mono ?_
    rintro x w6 ⟨rfl, b6, v6, h6⟩
    have OB := hid (Ob.below OB.out b6 hbs); have B := hid (B.out.trans b6); have W := hid h6; clear b6 h6
    have hle : w.heap.size + 1 ≤ _ := Nat.le_of_lt (Nat.lt_of_le_of_lt W.out.low W.out.ob.lt)
    have k0 := OB.out.cell 0; have k1 := OB.out.cell 1; have k2 := OB.out.cell 2; have k3 := OB.out.cell 3; have k4 := OB.out.cell 4; have k5 := OB.out.cell 5; have k6 := OB.out.cell 6; have k7 := OB.out.cell 7; have k8 := OB.out.cell 8; have k9 := OB.out.cell 9; have k10 := OB.out.cell 10; have k11 := OB.out.cell 11; have k12 := OB.out.cell 12; have k13 := OB.out.cell 13; have k14 := OB.out.cell 14; have k15 := OB.out.cell 15
    go_wp2_with fail
    clear k0 k1 k2 k3 k4 k5 k6 k7 k8 k9 k10 k11 k12 k13 k14 k15
    refine (wrt.raw1 _ _ _ _ _ _ 8 8 (zr 8) (W.out.only_nil ((Only.refl [] _).alloc _)) (by simp [zr_len]; try omega) (Own.of_ob (base := 0) (Ob.new _ _ _) (Nat.zero_le _) (zr_wf 8) (zr_len 8) (by simp [maxLen])).rd (by intro e; cases e) (by omega)).mono ?_
    rintro x w7 ⟨rfl, b7', v7, h7⟩
    have b7 := ((Below.refl (w.heap.size + 1) _).alloc hle _).trans b7'
    have OB := hid (Ob.below OB.out b7 hbs); have B := hid (B.out.trans b7); have W := hid h7; clear b7 b7' h7 hle
    have k0 := OB.out.cell 0; have k1 := OB.out.cell 1; have k2 := OB.out.cell 2; have k3 := OB.out.cell 3; have k4 := OB.out.cell 4; have k5 := OB.out.cell 5; have k6 := OB.out.cell 6; have k7 := OB.out.cell 7; have k8 := OB.out.cell 8; have k9 := OB.out.cell 9; have k10 := OB.out.cell 10; have k11 := OB.out.cell 11; have k12 := OB.out.cell 12; have k13 := OB.out.cell 13; have k14 := OB.out.cell 14; have k15 := OB.out.cell 15
    go_wp2_with fail
    clear k0 k1 k2 k3 k4 k5 k6 k7 k8 k9 k10 k11 k12 k13 k14 k15
    refine (wrt.four1 _ _ _ _ _ yo W.out (by simp [zr_len]; try omega)).mono ?_
    rintro x w8 ⟨rfl, b8, v8, h8⟩
    have OB := hid (Ob.below OB.out b8 hbs); have B := hid (B.out.trans b8); have W := hid h8; clear b8 h8
    have hle : w.heap.size + 1 ≤ _ := Nat.le_of_lt (Nat.lt_of_le_of_lt W.out.low W.out.ob.lt)
    have k0 := OB.out.cell 0; have k1 := OB.out.cell 1; have k2 := OB.out.cell 2; have k3 := OB.out.cell 3; have k4 := OB.out.cell 4; have k5 := OB.out.cell 5; have k6 := OB.out.cell 6; have k7 := OB.out.cell 7; have k8 := OB.out.cell 8; have k9 := OB.out.cell 9; have k10 := OB.out.cell 10; have k11 := OB.out.cell 11; have k12 := OB.out.cell 12; have k13 := OB.out.cell 13; have k14 := OB.out.cell 14; have k15 := OB.out.cell 15
    go_wp2_with fail
    clear k0 k1 k2 k3 k4 k5 k6 k7 k8 k9 k10 k11 k12 k13 k14 k15
    refine (wrt.raw1 _ _ _ _ _ _ 8 8 (zr 8) (W.out.only_nil ((Only.refl [] _).alloc _)) (by simp [zr_len]; try omega) (Own.of_ob (base := 0) (Ob.new _ _ _) (Nat.zero_le _) (zr_wf 8) (zr_len 8) (by simp [maxLen])).rd (by intro e; cases e) (by omega)).mono ?_
    rintro x w9 ⟨rfl, b9', v9, h9⟩
    have b9 := ((Below.refl (w.heap.size + 1) _).alloc hle _).trans b9'
    have OB := hid (Ob.below OB.out b9 hbs); have B := hid (B.out.trans b9); have W := hid h9; clear b9 b9' h9 hle
    have k0 := OB.out.cell 0; have k1 := OB.out.cell 1; have k2 := OB.out.cell 2; have k3 := OB.out.cell 3; have k4 := OB.out.cell 4; have k5 := OB.out.cell 5; have k6 := OB.out.cell 6; have k7 := OB.out.cell 7; have k8 := OB.out.cell 8; have k9 := OB.out.cell 9; have k10 := OB.out.cell 10; have k11 := OB.out.cell 11; have k12 := OB.out.cell 12; have k13 := OB.out.cell 13; have k14 := OB.out.cell 14; have k15 := OB.out.cell 15
    go_wp2_with fail
    have HCl : Hid (Rd .u8 w9 (some ⟨w.heap.size, 3, none⟩) 6 [c0, c1, c2, c3, c4, c5]) := hid ⟨rfl, HCc.out, fun _ => ⟨w.heap.size, 3, rfl, fun j hj => by
      rcases (by omega : j = 0 ∨ j = 1 ∨ j = 2 ∨ j = 3 ∨ j = 4 ∨ j = 5) with rfl | rfl | rfl | rfl | rfl | rfl
      · exact k3
      · exact k4
      · exact k5
      · exact k6
      · exact k7
      · exact k8⟩⟩
    clear k0 k1 k2 k3 k4 k5 k6 k7 k8 k9 k10 k11 k12 k13 k14 k15
    refine (wrt.raw1 _ _ _ _ _ _ 6 _ [c0, c1, c2, c3, c4, c5] W.out (by simp [zr_len]; try omega) HCl.out (by intro e; cases e) (by omega)).mono ?_
    rintro x w10 ⟨rfl, b10, v10, h10⟩
    have OB := hid (Ob.below OB.out b10 hbs); have B := hid (B.out.trans b10); have W := hid h10; clear b10 h10
    have hle : w.heap.size + 1 ≤ _ := Nat.le_of_lt (Nat.lt_of_le_of_lt W.out.low W.out.ob.lt)
    have k0 := OB.out.cell 0; have k1 := OB.out.cell 1; have k2 := OB.out.cell 2; have k3 := OB.out.cell 3; have k4 := OB.out.cell 4; have k5 := OB.out.cell 5; have k6 := OB.out.cell 6; have k7 := OB.out.cell 7; have k8 := OB.out.cell 8; have k9 := OB.out.cell 9; have k10 := OB.out.cell 10; have k11 := OB.out.cell 11; have k12 := OB.out.cell 12; have k13 := OB.out.cell 13; have k14 := OB.out.cell 14; have k15 := OB.out.cell 15
    go_wp2_with fail
    clear k0 k1 k2 k3 k4 k5 k6 k7 k8 k9 k10 k11 k12 k13 k14 k15
    refine (wrt.raw1 _ _ _ _ _ _ 202 202 (zr 202) (W.out.only_nil ((Only.refl [] _).alloc _)) (by simp [zr_len]; try omega) (Own.of_ob (base := 0) (Ob.new _ _ _) (Nat.zero_le _) (zr_wf 202) (zr_len 202) (by simp [maxLen])).rd (by intro e; cases e) (by omega)).mono ?_
    rintro x w11 ⟨rfl, b11', v11, h11⟩
    have b11 := ((Below.refl (w.heap.size + 1) _).alloc hle _).trans b11'
    have OB := hid (Ob.below OB.out b11 hbs); have B := hid (B.out.trans b11); have W := hid h11; clear b11 b11' h11 hle
    have k0 := OB.out.cell 0; have k1 := OB.out.cell 1; have k2 := OB.out.cell 2; have k3 := OB.out.cell 3; have k4 := OB.out.cell 4; have k5 := OB.out.cell 5; have k6 := OB.out.cell 6; have k7 := OB.out.cell 7; have k8 := OB.out.cell 8; have k9 := OB.out.cell 9; have k10 := OB.out.cell 10; have k11 := OB.out.cell 11; have k12 := OB.out.cell 12; have k13 := OB.out.cell 13; have k14 := OB.out.cell 14; have k15 := OB.out.cell 15
    go_wp2_with fail
    clear k0 k1 k2 k3 k4 k5 k6 k7 k8 k9 k10 k11 k12 k13 k14 k15
    refine (cookie1 _).mono ?_
    rintro x w12 ⟨rfl, h12, o12⟩
    have hb12 : Below (w.heap.size + 1) w11 w12 := Only.below (Below.refl _ _) o12 (Nat.le_of_lt (Nat.lt_of_le_of_lt W.out.low W.out.ob.lt)) (by simp)
    have C12 := hid h12
    have W := hid (W.out.only_nil o12); have OB := hid (OB.out.only o12 (by simp)); have B := hid (B.out.trans hb12)
    clear h12 o12 hb12
    go_wp2_with fail
    refine (wrt.raw1 _ _ _ _ _ _ 4 4 [99, 130, 83, 99] W.out (by simp [zr_len]; try omega) C12.out.rd (by intro e; cases e) (by omega)).mono ?_
    rintro x w13 ⟨rfl, b13, v13, h13⟩
    have OB := hid (Ob.below OB.out b13 hbs); have B := hid (B.out.trans b13); have W := hid h13; clear b13 h13
    clear C12
    have hle : w.heap.size + 1 ≤ w13.heap.size := Nat.le_of_lt (Nat.lt_of_le_of_lt W.out.low W.out.ob.lt)
    have k0 := OB.out.cell 0; have k1 := OB.out.cell 1; have k2 := OB.out.cell 2; have k3 := OB.out.cell 3; have k4 := OB.out.cell 4; have k5 := OB.out.cell 5; have k6 := OB.out.cell 6; have k7 := OB.out.cell 7; have k8 := OB.out.cell 8; have k9 := OB.out.cell 9; have k10 := OB.out.cell 10; have k11 := OB.out.cell 11; have k12 := OB.out.cell 12; have k13 := OB.out.cell 13; have k14 := OB.out.cell 14; have k15 := OB.out.cell 15
    go_wp2_with fail
    clear k0 k1 k2 k3 k4 k5 k6 k7 k8 k9 k10 k11 k12 k13 k14 k15
    refine (option1 _ (w.heap.size + 1) (w.heap.size + 1) v13 _ 53 (some ⟨w13.heap.size, 0, none⟩) 1 1 [ty] (W.out.only_nil ((Only.refl [] _).alloc _)) (by simp [zr_len]) ?_ (by intro e; cases e) (by omega) ?_).mono ?_
    · have h9 := Own.lit .u8 5 w13 0 [ty] #[.int .u8 ty] 1 rfl rfl (Nat.zero_le _) (by simp [maxLen]) (by intro z hz; rw [show z = ty from by simpa using hz]; apply (Lit.wf_int_iff .u8 ty).2; show 0 ≤ ty ∧ ty ≤ 255; omega)
      exact h9.rd
    · intro b off e
      have e1 : w13.heap.size = b := by injection e with e; injection e
      subst e1
      refine ⟨by have := W.out.ob.lt; omega, fun h => ?_, by simp⟩
      have := (W.out.own.lt _ h).2
      omega
    rintro x w14 ⟨rfl, b14', v14, h14⟩
    have b14 := ((Below.refl (w.heap.size + 1) w13).alloc hle _).trans b14'
    have OB := hid (Ob.below OB.out b14 hbs); have B := hid (B.out.trans b14)
    have W : Hid (wrt.Wr w14 (w.heap.size + 1) (w.heap.size + 1) v14 (head op id yo c0 c1 c2 c3 c4 c5 ++ [53, 1, ty] ++ optK sv ak ti mk ro re 0)) := hid (h14.of_eq (by simp [head, optK, hopm]))
    clear b14 b14' h14 hle
    have k0 := OB.out.cell 0; have k1 := OB.out.cell 1; have k2 := OB.out.cell 2; have k3 := OB.out.cell 3; have k4 := OB.out.cell 4; have k5 := OB.out.cell 5; have k6 := OB.out.cell 6; have k7 := OB.out.cell 7; have k8 := OB.out.cell 8; have k9 := OB.out.cell 9; have k10 := OB.out.cell 10; have k11 := OB.out.cell 11; have k12 := OB.out.cell 12; have k13 := OB.out.cell 13; have k14 := OB.out.cell 14; have k15 := OB.out.cell 15
    go_wp2_with fail
    clear k0 k1 k2 k3 k4 k5 k6 k7 k8 k9 k10 k11 k12 k13 k14 k15
    go_loopw [80, 6, 7] (fun i _ _ wr => ∃ (k : Nat) (v : Value), k ≤ 6 ∧ i = .int .i64 k ∧ Hid (wrt.Wr wr (w.heap.size + 1) (w.heap.size + 1) v (head op id yo c0 c1 c2 c3 c4 c5 ++ [53, 1, ty] ++ optK sv ak ti mk ro re k)) ∧ Hid (Below (w.heap.size + 1) (w.alloc (.cells #[.int .i64 op, .int .u32 id, .int .u32 yo, .int .u8 c0, .int .u8 c1, .int .u8 c2, .int .u8 c3, .int .u8 c4, .int .u8 c5, .int .i64 ty, .int .u32 sv, .int .u32 ak, .int .i64 ti, .int .u32 mk, .int .u32 ro, .int .u32 re] 27)) wr) ∧ Hid (Ob wr w.heap.size 27 #[.int .i64 op, .int .u32 id, .int .u32 yo, .int .u8 c0, .int .u8 c1, .int .u8 c2, .int .u8 c3, .int .u8 c4, .int .u8 c5, .int .i64 ty, .int .u32 sv, .int .u32 ak, .int .i64 ti, .int .u32 mk, .int .u32 ro, .int .u32 re])) (fun i _ _ _ => 6 - (RowKit.intOf i).toNat)
    case atStart => exact ⟨0, v14, by omega, rfl, W, B, OB⟩
    case round =>
      clear W B OB hti htl htg hty ht1 htim
      obtain ⟨k, v, hk, rfl, W, B, OB⟩ := hrel
      have hle : w.heap.size + 1 ≤ wr.heap.size := Nat.le_of_lt (Nat.lt_of_le_of_lt W.out.low W.out.ob.lt)
      rcases (by omega : k = 0 ∨ k = 1 ∨ k = 2 ∨ k = 3 ∨ k = 4 ∨ k = 5 ∨ k = 6) with rfl | rfl | rfl | rfl | rfl | rfl | rfl
      · have hix : ∀ W : World, (Instr.index 71 (.agg #[.int .i64 54, .int .u32 sv, .int .i64 50, .int .u32 ak, .int .i64 51, .int .u32 ti, .int .i64 1, .int .u32 mk, .int .i64 3, .int .u32 ro, .int .i64 6, .int .u32 re]) (.int .i64 0)).run Try.prog W = .ok (.agg #[.int .i64 54, .int .u32 sv]) W := fun _ => by kernel_rfl
        by_cases hv : sv = 0
        · have hvb : (sv != 0) = false := by simp [hv]
          have HV := hid hv; clear hv
          go_wp2_with fail
          go_roundw
          case rel => exact ⟨1, v, by omega, by first | rfl | go_num, hid (W.out.only_nil ((Only.refl [] _).alloc _) |>.of_eq (by simp [optK, opt, HV.out])), hid (B.out.alloc hle _), hid (Ob.below OB.out ((Below.refl (w.heap.size + 1) _).alloc hle _) hbs)⟩
          case measure => simp [RowKit.intOf]
        · have hvb : (sv != 0) = true := by simp [hv]
          have HV := hid hv; clear hv
          go_wp2_with fail
          refine (option1 _ (w.heap.size + 1) (w.heap.size + 1) v _ 54 (some ⟨wr.heap.size + 1, 0, none⟩) 4 4 [sv / 16777216 % 256, sv / 65536 % 256, sv / 256 % 256, sv % 256] (W.out.only_nil (((Only.refl [] _).alloc _).alloc _)) (by simp [head_len]; have := optK_len sv ak ti mk ro re 0; omega) ?_ (by intro e; cases e) (by omega) ?_).mono ?_
          · exact lit4 _ _ _ _ _ _ (four_wf sv)
          · intro b off e
            have e1 : wr.heap.size + 1 = b := by injection e with e; injection e
            subst e1
            refine ⟨by have := W.out.ob.lt; omega, fun h => ?_, by simp⟩
            have := (W.out.own.lt _ h).2
            omega
          rintro x w5 ⟨rfl, b5', v5, h5⟩
          have b5 := (((Below.refl (w.heap.size + 1) wr).alloc hle _).alloc (by simp; omega) _).trans b5'
          have OB5 := hid (Ob.below OB.out b5 hbs); have B5 := hid (B.out.trans b5)
          have W5 := hid h5
          clear b5 b5' h5
          go_wp2_with fail
          go_roundw
          case rel => exact ⟨1, v5, by omega, by first | rfl | go_num, hid (W5.out.of_eq (by simp [optK, opt, HV.out])), B5, OB5⟩
          case measure => simp [RowKit.intOf]
      · have hix : ∀ W : World, (Instr.index 71 (.agg #[.int .i64 54, .int .u32 sv, .int .i64 50, .int .u32 ak, .int .i64 51, .int .u32 ti, .int .i64 1, .int .u32 mk, .int .i64 3, .int .u32 ro, .int .i64 6, .int .u32 re]) (.int .i64 1)).run Try.prog W = .ok (.agg #[.int .i64 50, .int .u32 ak]) W := fun _ => by kernel_rfl
        by_cases hv : ak = 0
        · have hvb : (ak != 0) = false := by simp [hv]
          have HV := hid hv; clear hv
          go_wp2_with fail
          go_roundw
          case rel => exact ⟨2, v, by omega, by first | rfl | go_num, hid (W.out.only_nil ((Only.refl [] _).alloc _) |>.of_eq (by simp [optK, opt, HV.out])), hid (B.out.alloc hle _), hid (Ob.below OB.out ((Below.refl (w.heap.size + 1) _).alloc hle _) hbs)⟩
          case measure => simp [RowKit.intOf]
        · have hvb : (ak != 0) = true := by simp [hv]
          have HV := hid hv; clear hv
          go_wp2_with fail
          refine (option1 _ (w.heap.size + 1) (w.heap.size + 1) v _ 50 (some ⟨wr.heap.size + 1, 0, none⟩) 4 4 [ak / 16777216 % 256, ak / 65536 % 256, ak / 256 % 256, ak % 256] (W.out.only_nil (((Only.refl [] _).alloc _).alloc _)) (by simp [head_len]; have := optK_len sv ak ti mk ro re 1; omega) ?_ (by intro e; cases e) (by omega) ?_).mono ?_
          · exact lit4 _ _ _ _ _ _ (four_wf ak)
          · intro b off e
            have e1 : wr.heap.size + 1 = b := by injection e with e; injection e
            subst e1
            refine ⟨by have := W.out.ob.lt; omega, fun h => ?_, by simp⟩
            have := (W.out.own.lt _ h).2
            omega
          rintro x w5 ⟨rfl, b5', v5, h5⟩
          have b5 := (((Below.refl (w.heap.size + 1) wr).alloc hle _).alloc (by simp; omega) _).trans b5'
          have OB5 := hid (Ob.below OB.out b5 hbs); have B5 := hid (B.out.trans b5)
          have W5 := hid h5
          clear b5 b5' h5
          go_wp2_with fail
          go_roundw
          case rel => exact ⟨2, v5, by omega, by first | rfl | go_num, hid (W5.out.of_eq (by simp [optK, opt, HV.out])), B5, OB5⟩
          case measure => simp [RowKit.intOf]
      · have hix : ∀ W : World, (Instr.index 71 (.agg #[.int .i64 54, .int .u32 sv, .int .i64 50, .int .u32 ak, .int .i64 51, .int .u32 ti, .int .i64 1, .int .u32 mk, .int .i64 3, .int .u32 ro, .int .i64 6, .int .u32 re]) (.int .i64 2)).run Try.prog W = .ok (.agg #[.int .i64 51, .int .u32 ti]) W := fun _ => by kernel_rfl
        by_cases hv : ti = 0
        · have hvb : (ti != 0) = false := by simp [hv]
          have HV := hid hv; clear hv
          go_wp2_with fail
          go_roundw
          case rel => exact ⟨3, v, by omega, by first | rfl | go_num, hid (W.out.only_nil ((Only.refl [] _).alloc _) |>.of_eq (by simp [optK, opt, HV.out])), hid (B.out.alloc hle _), hid (Ob.below OB.out ((Below.refl (w.heap.size + 1) _).alloc hle _) hbs)⟩
          case measure => simp [RowKit.intOf]
        · have hvb : (ti != 0) = true := by simp [hv]
          have HV := hid hv; clear hv
          go_wp2_with fail
          refine (option1 _ (w.heap.size + 1) (w.heap.size + 1) v _ 51 (some ⟨wr.heap.size + 1, 0, none⟩) 4 4 [ti / 16777216 % 256, ti / 65536 % 256, ti / 256 % 256, ti % 256] (W.out.only_nil (((Only.refl [] _).alloc _).alloc _)) (by simp [head_len]; have := optK_len sv ak ti mk ro re 2; omega) ?_ (by intro e; cases e) (by omega) ?_).mono ?_
          · have hti9 := HG.out.2.2
            have hq9 : ti / 16777216 % 256 = ti / 16777216 := by omega
            have hw9 := four_wf ti
            rw [hq9] at hw9 ⊢
            exact lit4 _ _ _ _ _ _ hw9
          · intro b off e
            have e1 : wr.heap.size + 1 = b := by injection e with e; injection e
            subst e1
            refine ⟨by have := W.out.ob.lt; omega, fun h => ?_, by simp⟩
            have := (W.out.own.lt _ h).2
            omega
          rintro x w5 ⟨rfl, b5', v5, h5⟩
          have b5 := (((Below.refl (w.heap.size + 1) wr).alloc hle _).alloc (by simp; omega) _).trans b5'
          have OB5 := hid (Ob.below OB.out b5 hbs); have B5 := hid (B.out.trans b5)
          have W5 := hid h5
          clear b5 b5' h5
          go_wp2_with fail
          go_roundw
          case rel => exact ⟨3, v5, by omega, by first | rfl | go_num, hid (W5.out.of_eq (by simp [optK, opt, HV.out])), B5, OB5⟩
          case measure => simp [RowKit.intOf]
      · have hix : ∀ W : World, (Instr.index 71 (.agg #[.int .i64 54, .int .u32 sv, .int .i64 50, .int .u32 ak, .int .i64 51, .int .u32 ti, .int .i64 1, .int .u32 mk, .int .i64 3, .int .u32 ro, .int .i64 6, .int .u32 re]) (.int .i64 3)).run Try.prog W = .ok (.agg #[.int .i64 1, .int .u32 mk]) W := fun _ => by kernel_rfl
        by_cases hv : mk = 0
        · have hvb : (mk != 0) = false := by simp [hv]
          have HV := hid hv; clear hv
          go_wp2_with fail
          go_roundw
          case rel => exact ⟨4, v, by omega, by first | rfl | go_num, hid (W.out.only_nil ((Only.refl [] _).alloc _) |>.of_eq (by simp [optK, opt, HV.out])), hid (B.out.alloc hle _), hid (Ob.below OB.out ((Below.refl (w.heap.size + 1) _).alloc hle _) hbs)⟩
          case measure => simp [RowKit.intOf]
        · have hvb : (mk != 0) = true := by simp [hv]
          have HV := hid hv; clear hv
          go_wp2_with fail
          refine (option1 _ (w.heap.size + 1) (w.heap.size + 1) v _ 1 (some ⟨wr.heap.size + 1, 0, none⟩) 4 4 [mk / 16777216 % 256, mk / 65536 % 256, mk / 256 % 256, mk % 256] (W.out.only_nil (((Only.refl [] _).alloc _).alloc _)) (by simp [head_len]; have := optK_len sv ak ti mk ro re 3; omega) ?_ (by intro e; cases e) (by omega) ?_).mono ?_
          · exact lit4 _ _ _ _ _ _ (four_wf mk)
          · intro b off e
            have e1 : wr.heap.size + 1 = b := by injection e with e; injection e
            subst e1
            refine ⟨by have := W.out.ob.lt; omega, fun h => ?_, by simp⟩
            have := (W.out.own.lt _ h).2
            omega
          rintro x w5 ⟨rfl, b5', v5, h5⟩
          have b5 := (((Below.refl (w.heap.size + 1) wr).alloc hle _).alloc (by simp; omega) _).trans b5'
          have OB5 := hid (Ob.below OB.out b5 hbs); have B5 := hid (B.out.trans b5)
          have W5 := hid h5
          clear b5 b5' h5
          go_wp2_with fail
          go_roundw
          case rel => exact ⟨4, v5, by omega, by first | rfl | go_num, hid (W5.out.of_eq (by simp [optK, opt, HV.out])), B5, OB5⟩
          case measure => simp [RowKit.intOf]
      · have hix : ∀ W : World, (Instr.index 71 (.agg #[.int .i64 54, .int .u32 sv, .int .i64 50, .int .u32 ak, .int .i64 51, .int .u32 ti, .int .i64 1, .int .u32 mk, .int .i64 3, .int .u32 ro, .int .i64 6, .int .u32 re]) (.int .i64 4)).run Try.prog W = .ok (.agg #[.int .i64 3, .int .u32 ro]) W := fun _ => by kernel_rfl
        by_cases hv : ro = 0
        · have hvb : (ro != 0) = false := by simp [hv]
          have HV := hid hv; clear hv
          go_wp2_with fail
          go_roundw
          case rel => exact ⟨5, v, by omega, by first | rfl | go_num, hid (W.out.only_nil ((Only.refl [] _).alloc _) |>.of_eq (by simp [optK, opt, HV.out])), hid (B.out.alloc hle _), hid (Ob.below OB.out ((Below.refl (w.heap.size + 1) _).alloc hle _) hbs)⟩
          case measure => simp [RowKit.intOf]
        · have hvb : (ro != 0) = true := by simp [hv]
          have HV := hid hv; clear hv
          go_wp2_with fail
          refine (option1 _ (w.heap.size + 1) (w.heap.size + 1) v _ 3 (some ⟨wr.heap.size + 1, 0, none⟩) 4 4 [ro / 16777216 % 256, ro / 65536 % 256, ro / 256 % 256, ro % 256] (W.out.only_nil (((Only.refl [] _).alloc _).alloc _)) (by simp [head_len]; have := optK_len sv ak ti mk ro re 4; omega) ?_ (by intro e; cases e) (by omega) ?_).mono ?_
          · exact lit4 _ _ _ _ _ _ (four_wf ro)
          · intro b off e
            have e1 : wr.heap.size + 1 = b := by injection e with e; injection e
            subst e1
            refine ⟨by have := W.out.ob.lt; omega, fun h => ?_, by simp⟩
            have := (W.out.own.lt _ h).2
            omega
          rintro x w5 ⟨rfl, b5', v5, h5⟩
          have b5 := (((Below.refl (w.heap.size + 1) wr).alloc hle _).alloc (by simp; omega) _).trans b5'
          have OB5 := hid (Ob.below OB.out b5 hbs); have B5 := hid (B.out.trans b5)
          have W5 := hid h5
          clear b5 b5' h5
          go_wp2_with fail
          go_roundw
          case rel => exact ⟨5, v5, by omega, by first | rfl | go_num, hid (W5.out.of_eq (by simp [optK, opt, HV.out])), B5, OB5⟩
          case measure => simp [RowKit.intOf]
      · have hix : ∀ W : World, (Instr.index 71 (.agg #[.int .i64 54, .int .u32 sv, .int .i64 50, .int .u32 ak, .int .i64 51, .int .u32 ti, .int .i64 1, .int .u32 mk, .int .i64 3, .int .u32 ro, .int .i64 6, .int .u32 re]) (.int .i64 5)).run Try.prog W = .ok (.agg #[.int .i64 6, .int .u32 re]) W := fun _ => by kernel_rfl
        by_cases hv : re = 0
        · have hvb : (re != 0) = false := by simp [hv]
          have HV := hid hv; clear hv
          go_wp2_with fail
          go_roundw
          case rel => exact ⟨6, v, by omega, by first | rfl | go_num, hid (W.out.only_nil ((Only.refl [] _).alloc _) |>.of_eq (by simp [optK, opt, HV.out])), hid (B.out.alloc hle _), hid (Ob.below OB.out ((Below.refl (w.heap.size + 1) _).alloc hle _) hbs)⟩
          case measure => simp [RowKit.intOf]
        · have hvb : (re != 0) = true := by simp [hv]
          have HV := hid hv; clear hv
          go_wp2_with fail
          refine (option1 _ (w.heap.size + 1) (w.heap.size + 1) v _ 6 (some ⟨wr.heap.size + 1, 0, none⟩) 4 4 [re / 16777216 % 256, re / 65536 % 256, re / 256 % 256, re % 256] (W.out.only_nil (((Only.refl [] _).alloc _).alloc _)) (by simp [head_len]; have := optK_len sv ak ti mk ro re 5; omega) ?_ (by intro e; cases e) (by omega) ?_).mono ?_
          · exact lit4 _ _ _ _ _ _ (four_wf re)
          · intro b off e
            have e1 : wr.heap.size + 1 = b := by injection e with e; injection e
            subst e1
            refine ⟨by have := W.out.ob.lt; omega, fun h => ?_, by simp⟩
            have := (W.out.own.lt _ h).2
            omega
          rintro x w5 ⟨rfl, b5', v5, h5⟩
          have b5 := (((Below.refl (w.heap.size + 1) wr).alloc hle _).alloc (by simp; omega) _).trans b5'
          have OB5 := hid (Ob.below OB.out b5 hbs); have B5 := hid (B.out.trans b5)
          have W5 := hid h5
          clear b5 b5' h5
          go_wp2_with fail
          go_roundw
          case rel => exact ⟨6, v5, by omega, by first | rfl | go_num, hid (W5.out.of_eq (by simp [optK, opt, HV.out])), B5, OB5⟩
          case measure => simp [RowKit.intOf]
      · clear hle
        go_wp2_with fail
        refine (wrt.byte1 _ _ _ _ _ 255 W.out (by simp [head_len]; have := optK_len sv ak ti mk ro re 6; omega)).mono ?_
        rintro x w15 ⟨rfl, b15, v15, h15⟩
        have OB := hid (Ob.below OB.out b15 hbs); have B := hid (B.out.trans b15); have W := hid h15; clear b15 h15
        go_wp2_with fail
        refine (wrt.bytes1 _ _ _ _ _ W.out (by simp [head_len]; have := optK_len sv ak ti mk ro re 6; omega)).mono ?_
        rintro x w20 ⟨v20, rfl, hv, o20⟩
        have V := hid hv; have Q := hid (only_below' Q1.out B.out (by simp))
        have Q2 := hid (Q.out.trans o20); have hq := Q.out.size
        clear hv o20
        go_wp2
        go_ret2
        refine ⟨_, rfl, ?_, Q2.out⟩
        refine Own.mono_base ?_ hq
        have h9 := V.out
        simpa [enc, optK] using h9
  · have ho1 : (op != 1) = true := by simp [hop]
    have ho2 : (op != 2) = false := by simp [hop]
    clear hop
    go_enter Try.func10, Try.ntmps10
    have k0 := OB0.out.cell 0; have k1 := OB0.out.cell 1; have k2 := OB0.out.cell 2; have k3 := OB0.out.cell 3; have k4 := OB0.out.cell 4; have k5 := OB0.out.cell 5; have k6 := OB0.out.cell 6; have k7 := OB0.out.cell 7; have k8 := OB0.out.cell 8; have k9 := OB0.out.cell 9; have k10 := OB0.out.cell 10; have k11 := OB0.out.cell 11; have k12 := OB0.out.cell 12; have k13 := OB0.out.cell 13; have k14 := OB0.out.cell 14; have k15 := OB0.out.cell 15
    go_wp2_with fail
    refine (type1 _ ty).mono ?_
    rintro x w1 ⟨rfl, hw1⟩
    subst hw1
    rw [hd1]
    go_wp2_with fail
    clear k0 k1 k2 k3 k4 k5 k6 k7 k8 k9 k10 k11 k12 k13 k14 k15
    refine (wrt.byte1 _ _ _ _ _ op W.out (by simp)).mono ?_
    rintro x w2 ⟨rfl, b2, v2, h2⟩
    have OB := hid (Ob.below OB.out b2 hbs); have B := hid (B.out.trans b2); have W := hid h2; clear b2 h2
    have k0 := OB.out.cell 0; have k1 := OB.out.cell 1; have k2 := OB.out.cell 2; have k3 := OB.out.cell 3; have k4 := OB.out.cell 4; have k5 := OB.out.cell 5; have k6 := OB.out.cell 6; have k7 := OB.out.cell 7; have k8 := OB.out.cell 8; have k9 := OB.out.cell 9; have k10 := OB.out.cell 10; have k11 := OB.out.cell 11; have k12 := OB.out.cell 12; have k13 := OB.out.cell 13; have k14 := OB.out.cell 14; have k15 := OB.out.cell 15
    go_wp2_with fail
    clear k0 k1 k2 k3 k4 k5 k6 k7 k8 k9 k10 k11 k12 k13 k14 k15
    refine (wrt.byte1 _ _ _ _ _ 1 W.out (by simp [zr_len]; try omega)).mono ?_
    rintro x w3 ⟨rfl, b3, v3, h3⟩
    have OB := hid (Ob.below OB.out b3 hbs); have B := hid (B.out.trans b3); have W := hid h3; clear b3 h3
    have k0 := OB.out.cell 0; have k1 := OB.out.cell 1; have k2 := OB.out.cell 2; have k3 := OB.out.cell 3; have k4 := OB.out.cell 4; have k5 := OB.out.cell 5; have k6 := OB.out.cell 6; have k7 := OB.out.cell 7; have k8 := OB.out.cell 8; have k9 := OB.out.cell 9; have k10 := OB.out.cell 10; have k11 := OB.out.cell 11; have k12 := OB.out.cell 12; have k13 := OB.out.cell 13; have k14 := OB.out.cell 14; have k15 := OB.out.cell 15
    go_wp2_with fail
    clear k0 k1 k2 k3 k4 k5 k6 k7 k8 k9 k10 k11 k12 k13 k14 k15
    refine (wrt.byte1 _ _ _ _ _ 6 W.out (by simp [zr_len]; try omega)).mono ?_
    rintro x w4 ⟨rfl, b4, v4, h4⟩
    have OB := hid (Ob.below OB.out b4 hbs); have B := hid (B.out.trans b4); have W := hid h4; clear b4 h4
    have k0 := OB.out.cell 0; have k1 := OB.out.cell 1; have k2 := OB.out.cell 2; have k3 := OB.out.cell 3; have k4 := OB.out.cell 4; have k5 := OB.out.cell 5; have k6 := OB.out.cell 6; have k7 := OB.out.cell 7; have k8 := OB.out.cell 8; have k9 := OB.out.cell 9; have k10 := OB.out.cell 10; have k11 := OB.out.cell 11; have k12 := OB.out.cell 12; have k13 := OB.out.cell 13; have k14 := OB.out.cell 14; have k15 := OB.out.cell 15
    go_wp2_with fail
    clear k0 k1 k2 k3 k4 k5 k6 k7 k8 k9 k10 k11 k12 k13 k14 k15
    refine (wrt.byte1 _ _ _ _ _ 0 W.out (by simp [zr_len]; try omega)).mono ?_
    rintro x w5 ⟨rfl, b5, v5, h5⟩
    have OB := hid (Ob.below OB.out b5 hbs); have B := hid (B.out.trans b5); have W := hid h5; clear b5 h5
    have k0 := OB.out.cell 0; have k1 := OB.out.cell 1; have k2 := OB.out.cell 2; have k3 := OB.out.cell 3; have k4 := OB.out.cell 4; have k5 := OB.out.cell 5; have k6 := OB.out.cell 6; have k7 := OB.out.cell 7; have k8 := OB.out.cell 8; have k9 := OB.out.cell 9; have k10 := OB.out.cell 10; have k11 := OB.out.cell 11; have k12 := OB.out.cell 12; have k13 := OB.out.cell 13; have k14 := OB.out.cell 14; have k15 := OB.out.cell 15
    go_wp2_with fail
    clear k0 k1 k2 k3 k4 k5 k6 k7 k8 k9 k10 k11 k12 k13 k14 k15
    refine (wrt.four1 _ _ _ _ _ id W.out (by simp [zr_len]; try omega)).mono ?_
    rintro x w6 ⟨rfl, b6, v6, h6⟩
    have OB := hid (Ob.below OB.out b6 hbs); have B := hid (B.out.trans b6); have W := hid h6; clear b6 h6
    have hle : w.heap.size + 1 ≤ _ := Nat.le_of_lt (Nat.lt_of_le_of_lt W.out.low W.out.ob.lt)
    have k0 := OB.out.cell 0; have k1 := OB.out.cell 1; have k2 := OB.out.cell 2; have k3 := OB.out.cell 3; have k4 := OB.out.cell 4; have k5 := OB.out.cell 5; have k6 := OB.out.cell 6; have k7 := OB.out.cell 7; have k8 := OB.out.cell 8; have k9 := OB.out.cell 9; have k10 := OB.out.cell 10; have k11 := OB.out.cell 11; have k12 := OB.out.cell 12; have k13 := OB.out.cell 13; have k14 := OB.out.cell 14; have k15 := OB.out.cell 15
    go_wp2_with fail
    clear k0 k1 k2 k3 k4 k5 k6 k7 k8 k9 k10 k11 k12 k13 k14 k15
    refine (wrt.raw1 _ _ _ _ _ _ 8 8 (zr 8) (W.out.only_nil ((Only.refl [] _).alloc _)) (by simp [zr_len]; try omega) (Own.of_ob (base := 0) (Ob.new _ _ _) (Nat.zero_le _) (zr_wf 8) (zr_len 8) (by simp [maxLen])).rd (by intro e; cases e) (by omega)).mono ?_
    rintro x w7 ⟨rfl, b7', v7, h7⟩
    have b7 := ((Below.refl (w.heap.size + 1) _).alloc hle _).trans b7'
    have OB := hid (Ob.below OB.out b7 hbs); have B := hid (B.out.trans b7); have W := hid h7; clear b7 b7' h7 hle
    have k0 := OB.out.cell 0; have k1 := OB.out.cell 1; have k2 := OB.out.cell 2; have k3 := OB.out.cell 3; have k4 := OB.out.cell 4; have k5 := OB.out.cell 5; have k6 := OB.out.cell 6; have k7 := OB.out.cell 7; have k8 := OB.out.cell 8; have k9 := OB.out.cell 9; have k10 := OB.out.cell 10; have k11 := OB.out.cell 11; have k12 := OB.out.cell 12; have k13 := OB.out.cell 13; have k14 := OB.out.cell 14; have k15 := OB.out.cell 15
    go_wp2_with fail
    clear k0 k1 k2 k3 k4 k5 k6 k7 k8 k9 k10 k11 k12 k13 k14 k15
    refine (wrt.four1 _ _ _ _ _ yo W.out (by simp [zr_len]; try omega)).mono ?_
    rintro x w8 ⟨rfl, b8, v8, h8⟩
    have OB := hid (Ob.below OB.out b8 hbs); have B := hid (B.out.trans b8); have W := hid h8; clear b8 h8
    have hle : w.heap.size + 1 ≤ _ := Nat.le_of_lt (Nat.lt_of_le_of_lt W.out.low W.out.ob.lt)
    have k0 := OB.out.cell 0; have k1 := OB.out.cell 1; have k2 := OB.out.cell 2; have k3 := OB.out.cell 3; have k4 := OB.out.cell 4; have k5 := OB.out.cell 5; have k6 := OB.out.cell 6; have k7 := OB.out.cell 7; have k8 := OB.out.cell 8; have k9 := OB.out.cell 9; have k10 := OB.out.cell 10; have k11 := OB.out.cell 11; have k12 := OB.out.cell 12; have k13 := OB.out.cell 13; have k14 := OB.out.cell 14; have k15 := OB.out.cell 15
    go_wp2_with fail
    clear k0 k1 k2 k3 k4 k5 k6 k7 k8 k9 k10 k11 k12 k13 k14 k15
    refine (wrt.raw1 _ _ _ _ _ _ 8 8 (zr 8) (W.out.only_nil ((Only.refl [] _).alloc _)) (by simp [zr_len]; try omega) (Own.of_ob (base := 0) (Ob.new _ _ _) (Nat.zero_le _) (zr_wf 8) (zr_len 8) (by simp [maxLen])).rd (by intro e; cases e) (by omega)).mono ?_
    rintro x w9 ⟨rfl, b9', v9, h9⟩
    have b9 := ((Below.refl (w.heap.size + 1) _).alloc hle _).trans b9'
    have OB := hid (Ob.below OB.out b9 hbs); have B := hid (B.out.trans b9); have W := hid h9; clear b9 b9' h9 hle
    have k0 := OB.out.cell 0; have k1 := OB.out.cell 1; have k2 := OB.out.cell 2; have k3 := OB.out.cell 3; have k4 := OB.out.cell 4; have k5 := OB.out.cell 5; have k6 := OB.out.cell 6; have k7 := OB.out.cell 7; have k8 := OB.out.cell 8; have k9 := OB.out.cell 9; have k10 := OB.out.cell 10; have k11 := OB.out.cell 11; have k12 := OB.out.cell 12; have k13 := OB.out.cell 13; have k14 := OB.out.cell 14; have k15 := OB.out.cell 15
    go_wp2_with fail
    have HCl : Hid (Rd .u8 w9 (some ⟨w.heap.size, 3, none⟩) 6 [c0, c1, c2, c3, c4, c5]) := hid ⟨rfl, HCc.out, fun _ => ⟨w.heap.size, 3, rfl, fun j hj => by
      rcases (by omega : j = 0 ∨ j = 1 ∨ j = 2 ∨ j = 3 ∨ j = 4 ∨ j = 5) with rfl | rfl | rfl | rfl | rfl | rfl
      · exact k3
      · exact k4
      · exact k5
      · exact k6
      · exact k7
      · exact k8⟩⟩
    clear k0 k1 k2 k3 k4 k5 k6 k7 k8 k9 k10 k11 k12 k13 k14 k15
    refine (wrt.raw1 _ _ _ _ _ _ 6 _ [c0, c1, c2, c3, c4, c5] W.out (by simp [zr_len]; try omega) HCl.out (by intro e; cases e) (by omega)).mono ?_
    rintro x w10 ⟨rfl, b10, v10, h10⟩
    have OB := hid (Ob.below OB.out b10 hbs); have B := hid (B.out.trans b10); have W := hid h10; clear b10 h10
    have hle : w.heap.size + 1 ≤ _ := Nat.le_of_lt (Nat.lt_of_le_of_lt W.out.low W.out.ob.lt)
    have k0 := OB.out.cell 0; have k1 := OB.out.cell 1; have k2 := OB.out.cell 2; have k3 := OB.out.cell 3; have k4 := OB.out.cell 4; have k5 := OB.out.cell 5; have k6 := OB.out.cell 6; have k7 := OB.out.cell 7; have k8 := OB.out.cell 8; have k9 := OB.out.cell 9; have k10 := OB.out.cell 10; have k11 := OB.out.cell 11; have k12 := OB.out.cell 12; have k13 := OB.out.cell 13; have k14 := OB.out.cell 14; have k15 := OB.out.cell 15
    go_wp2_with fail
    clear k0 k1 k2 k3 k4 k5 k6 k7 k8 k9 k10 k11 k12 k13 k14 k15
    refine (wrt.raw1 _ _ _ _ _ _ 202 202 (zr 202) (W.out.only_nil ((Only.refl [] _).alloc _)) (by simp [zr_len]; try omega) (Own.of_ob (base := 0) (Ob.new _ _ _) (Nat.zero_le _) (zr_wf 202) (zr_len 202) (by simp [maxLen])).rd (by intro e; cases e) (by omega)).mono ?_
    rintro x w11 ⟨rfl, b11', v11, h11⟩
    have b11 := ((Below.refl (w.heap.size + 1) _).alloc hle _).trans b11'
    have OB := hid (Ob.below OB.out b11 hbs); have B := hid (B.out.trans b11); have W := hid h11; clear b11 b11' h11 hle
    have k0 := OB.out.cell 0; have k1 := OB.out.cell 1; have k2 := OB.out.cell 2; have k3 := OB.out.cell 3; have k4 := OB.out.cell 4; have k5 := OB.out.cell 5; have k6 := OB.out.cell 6; have k7 := OB.out.cell 7; have k8 := OB.out.cell 8; have k9 := OB.out.cell 9; have k10 := OB.out.cell 10; have k11 := OB.out.cell 11; have k12 := OB.out.cell 12; have k13 := OB.out.cell 13; have k14 := OB.out.cell 14; have k15 := OB.out.cell 15
    go_wp2_with fail
    clear k0 k1 k2 k3 k4 k5 k6 k7 k8 k9 k10 k11 k12 k13 k14 k15
    refine (cookie1 _).mono ?_
    rintro x w12 ⟨rfl, h12, o12⟩
    have hb12 : Below (w.heap.size + 1) w11 w12 := Only.below (Below.refl _ _) o12 (Nat.le_of_lt (Nat.lt_of_le_of_lt W.out.low W.out.ob.lt)) (by simp)
    have C12 := hid h12
    have W := hid (W.out.only_nil o12); have OB := hid (OB.out.only o12 (by simp)); have B := hid (B.out.trans hb12)
    clear h12 o12 hb12
    go_wp2_with fail
    refine (wrt.raw1 _ _ _ _ _ _ 4 4 [99, 130, 83, 99] W.out (by simp [zr_len]; try omega) C12.out.rd (by intro e; cases e) (by omega)).mono ?_
    rintro x w13 ⟨rfl, b13, v13, h13⟩
    have OB := hid (Ob.below OB.out b13 hbs); have B := hid (B.out.trans b13); have W := hid h13; clear b13 h13
    clear C12
    have hle : w.heap.size + 1 ≤ w13.heap.size := Nat.le_of_lt (Nat.lt_of_le_of_lt W.out.low W.out.ob.lt)
    have k0 := OB.out.cell 0; have k1 := OB.out.cell 1; have k2 := OB.out.cell 2; have k3 := OB.out.cell 3; have k4 := OB.out.cell 4; have k5 := OB.out.cell 5; have k6 := OB.out.cell 6; have k7 := OB.out.cell 7; have k8 := OB.out.cell 8; have k9 := OB.out.cell 9; have k10 := OB.out.cell 10; have k11 := OB.out.cell 11; have k12 := OB.out.cell 12; have k13 := OB.out.cell 13; have k14 := OB.out.cell 14; have k15 := OB.out.cell 15
    go_wp2_with fail
    clear k0 k1 k2 k3 k4 k5 k6 k7 k8 k9 k10 k11 k12 k13 k14 k15
    refine (option1 _ (w.heap.size + 1) (w.heap.size + 1) v13 _ 53 (some ⟨w13.heap.size, 0, none⟩) 1 1 [ty] (W.out.only_nil ((Only.refl [] _).alloc _)) (by simp [zr_len]) ?_ (by intro e; cases e) (by omega) ?_).mono ?_
    · have h9 := Own.lit .u8 5 w13 0 [ty] #[.int .u8 ty] 1 rfl rfl (Nat.zero_le _) (by simp [maxLen]) (by intro z hz; rw [show z = ty from by simpa using hz]; apply (Lit.wf_int_iff .u8 ty).2; show 0 ≤ ty ∧ ty ≤ 255; omega)
      exact h9.rd
    · intro b off e
      have e1 : w13.heap.size = b := by injection e with e; injection e
      subst e1
      refine ⟨by have := W.out.ob.lt; omega, fun h => ?_, by simp⟩
      have := (W.out.own.lt _ h).2
      omega
    rintro x w14 ⟨rfl, b14', v14, h14⟩
    have b14 := ((Below.refl (w.heap.size + 1) w13).alloc hle _).trans b14'
    have OB := hid (Ob.below OB.out b14 hbs); have B := hid (B.out.trans b14)
    have W : Hid (wrt.Wr w14 (w.heap.size + 1) (w.heap.size + 1) v14 (head op id yo c0 c1 c2 c3 c4 c5 ++ [53, 1, ty] ++ optK sv ak ti mk ro re 0)) := hid (h14.of_eq (by simp [head, optK, hopm]))
    clear b14 b14' h14 hle
    have k0 := OB.out.cell 0; have k1 := OB.out.cell 1; have k2 := OB.out.cell 2; have k3 := OB.out.cell 3; have k4 := OB.out.cell 4; have k5 := OB.out.cell 5; have k6 := OB.out.cell 6; have k7 := OB.out.cell 7; have k8 := OB.out.cell 8; have k9 := OB.out.cell 9; have k10 := OB.out.cell 10; have k11 := OB.out.cell 11; have k12 := OB.out.cell 12; have k13 := OB.out.cell 13; have k14 := OB.out.cell 14; have k15 := OB.out.cell 15
    go_wp2_with fail
    clear k0 k1 k2 k3 k4 k5 k6 k7 k8 k9 k10 k11 k12 k13 k14 k15
    go_loopw [80, 6, 7] (fun i _ _ wr => ∃ (k : Nat) (v : Value), k ≤ 6 ∧ i = .int .i64 k ∧ Hid (wrt.Wr wr (w.heap.size + 1) (w.heap.size + 1) v (head op id yo c0 c1 c2 c3 c4 c5 ++ [53, 1, ty] ++ optK sv ak ti mk ro re k)) ∧ Hid (Below (w.heap.size + 1) (w.alloc (.cells #[.int .i64 op, .int .u32 id, .int .u32 yo, .int .u8 c0, .int .u8 c1, .int .u8 c2, .int .u8 c3, .int .u8 c4, .int .u8 c5, .int .i64 ty, .int .u32 sv, .int .u32 ak, .int .i64 ti, .int .u32 mk, .int .u32 ro, .int .u32 re] 27)) wr) ∧ Hid (Ob wr w.heap.size 27 #[.int .i64 op, .int .u32 id, .int .u32 yo, .int .u8 c0, .int .u8 c1, .int .u8 c2, .int .u8 c3, .int .u8 c4, .int .u8 c5, .int .i64 ty, .int .u32 sv, .int .u32 ak, .int .i64 ti, .int .u32 mk, .int .u32 ro, .int .u32 re])) (fun i _ _ _ => 6 - (RowKit.intOf i).toNat)
    case atStart => exact ⟨0, v14, by omega, rfl, W, B, OB⟩
    case round =>
      clear W B OB hti htl htg hty ht1 htim
      obtain ⟨k, v, hk, rfl, W, B, OB⟩ := hrel
      have hle : w.heap.size + 1 ≤ wr.heap.size := Nat.le_of_lt (Nat.lt_of_le_of_lt W.out.low W.out.ob.lt)
      rcases (by omega : k = 0 ∨ k = 1 ∨ k = 2 ∨ k = 3 ∨ k = 4 ∨ k = 5 ∨ k = 6) with rfl | rfl | rfl | rfl | rfl | rfl | rfl
      · have hix : ∀ W : World, (Instr.index 71 (.agg #[.int .i64 54, .int .u32 sv, .int .i64 50, .int .u32 ak, .int .i64 51, .int .u32 ti, .int .i64 1, .int .u32 mk, .int .i64 3, .int .u32 ro, .int .i64 6, .int .u32 re]) (.int .i64 0)).run Try.prog W = .ok (.agg #[.int .i64 54, .int .u32 sv]) W := fun _ => by kernel_rfl
        by_cases hv : sv = 0
        · have hvb : (sv != 0) = false := by simp [hv]
          have HV := hid hv; clear hv
          go_wp2_with fail
          go_roundw
          case rel => exact ⟨1, v, by omega, by first | rfl | go_num, hid (W.out.only_nil ((Only.refl [] _).alloc _) |>.of_eq (by simp [optK, opt, HV.out])), hid (B.out.alloc hle _), hid (Ob.below OB.out ((Below.refl (w.heap.size + 1) _).alloc hle _) hbs)⟩
          case measure => simp [RowKit.intOf]
        · have hvb : (sv != 0) = true := by simp [hv]
          have HV := hid hv; clear hv
          go_wp2_with fail
          refine (option1 _ (w.heap.size + 1) (w.heap.size + 1) v _ 54 (some ⟨wr.heap.size + 1, 0, none⟩) 4 4 [sv / 16777216 % 256, sv / 65536 % 256, sv / 256 % 256, sv % 256] (W.out.only_nil (((Only.refl [] _).alloc _).alloc _)) (by simp [head_len]; have := optK_len sv ak ti mk ro re 0; omega) ?_ (by intro e; cases e) (by omega) ?_).mono ?_
          · exact lit4 _ _ _ _ _ _ (four_wf sv)
          · intro b off e
            have e1 : wr.heap.size + 1 = b := by injection e with e; injection e
            subst e1
            refine ⟨by have := W.out.ob.lt; omega, fun h => ?_, by simp⟩
            have := (W.out.own.lt _ h).2
            omega
          rintro x w5 ⟨rfl, b5', v5, h5⟩
          have b5 := (((Below.refl (w.heap.size + 1) wr).alloc hle _).alloc (by simp; omega) _).trans b5'
          have OB5 := hid (Ob.below OB.out b5 hbs); have B5 := hid (B.out.trans b5)
          have W5 := hid h5
          clear b5 b5' h5
          go_wp2_with fail
          go_roundw
          case rel => exact ⟨1, v5, by omega, by first | rfl | go_num, hid (W5.out.of_eq (by simp [optK, opt, HV.out])), B5, OB5⟩
          case measure => simp [RowKit.intOf]
      · have hix : ∀ W : World, (Instr.index 71 (.agg #[.int .i64 54, .int .u32 sv, .int .i64 50, .int .u32 ak, .int .i64 51, .int .u32 ti, .int .i64 1, .int .u32 mk, .int .i64 3, .int .u32 ro, .int .i64 6, .int .u32 re]) (.int .i64 1)).run Try.prog W = .ok (.agg #[.int .i64 50, .int .u32 ak]) W := fun _ => by kernel_rfl
        by_cases hv : ak = 0
        · have hvb : (ak != 0) = false := by simp [hv]
          have HV := hid hv; clear hv
          go_wp2_with fail
          go_roundw
          case rel => exact ⟨2, v, by omega, by first | rfl | go_num, hid (W.out.only_nil ((Only.refl [] _).alloc _) |>.of_eq (by simp [optK, opt, HV.out])), hid (B.out.alloc hle _), hid (Ob.below OB.out ((Below.refl (w.heap.size + 1) _).alloc hle _) hbs)⟩
          case measure => simp [RowKit.intOf]
        · have hvb : (ak != 0) = true := by simp [hv]
          have HV := hid hv; clear hv
          go_wp2_with fail
          refine (option1 _ (w.heap.size + 1) (w.heap.size + 1) v _ 50 (some ⟨wr.heap.size + 1, 0, none⟩) 4 4 [ak / 16777216 % 256, ak / 65536 % 256, ak / 256 % 256, ak % 256] (W.out.only_nil (((Only.refl [] _).alloc _).alloc _)) (by simp [head_len]; have := optK_len sv ak ti mk ro re 1; omega) ?_ (by intro e; cases e) (by omega) ?_).mono ?_
          · exact lit4 _ _ _ _ _ _ (four_wf ak)
          · intro b off e
            have e1 : wr.heap.size + 1 = b := by injection e with e; injection e
            subst e1
            refine ⟨by have := W.out.ob.lt; omega, fun h => ?_, by simp⟩
            have := (W.out.own.lt _ h).2
            omega
          rintro x w5 ⟨rfl, b5', v5, h5⟩
          have b5 := (((Below.refl (w.heap.size + 1) wr).alloc hle _).alloc (by simp; omega) _).trans b5'
          have OB5 := hid (Ob.below OB.out b5 hbs); have B5 := hid (B.out.trans b5)
          have W5 := hid h5
          clear b5 b5' h5
          go_wp2_with fail
          go_roundw
          case rel => exact ⟨2, v5, by omega, by first | rfl | go_num, hid (W5.out.of_eq (by simp [optK, opt, HV.out])), B5, OB5⟩
          case measure => simp [RowKit.intOf]
      · have hix : ∀ W : World, (Instr.index 71 (.agg #[.int .i64 54, .int .u32 sv, .int .i64 50, .int .u32 ak, .int .i64 51, .int .u32 ti, .int .i64 1, .int .u32 mk, .int .i64 3, .int .u32 ro, .int .i64 6, .int .u32 re]) (.int .i64 2)).run Try.prog W = .ok (.agg #[.int .i64 51, .int .u32 ti]) W := fun _ => by kernel_rfl
        by_cases hv : ti = 0
        · have hvb : (ti != 0) = false := by simp [hv]
          have HV := hid hv; clear hv
          go_wp2_with fail
          go_roundw
          case rel => exact ⟨3, v, by omega, by first | rfl | go_num, hid (W.out.only_nil ((Only.refl [] _).alloc _) |>.of_eq (by simp [optK, opt, HV.out])), hid (B.out.alloc hle _), hid (Ob.below OB.out ((Below.refl (w.heap.size + 1) _).alloc hle _) hbs)⟩
          case measure => simp [RowKit.intOf]
        · have hvb : (ti != 0) = true := by simp [hv]
          have HV := hid hv; clear hv
          go_wp2_with fail
          refine (option1 _ (w.heap.size + 1) (w.heap.size + 1) v _ 51 (some ⟨wr.heap.size + 1, 0, none⟩) 4 4 [ti / 16777216 % 256, ti / 65536 % 256, ti / 256 % 256, ti % 256] (W.out.only_nil (((Only.refl [] _).alloc _).alloc _)) (by simp [head_len]; have := optK_len sv ak ti mk ro re 2; omega) ?_ (by intro e; cases e) (by omega) ?_).mono ?_
          · have hti9 := HG.out.2.2
            have hq9 : ti / 16777216 % 256 = ti / 16777216 := by omega
            have hw9 := four_wf ti
            rw [hq9] at hw9 ⊢
            exact lit4 _ _ _ _ _ _ hw9
          · intro b off e
            have e1 : wr.heap.size + 1 = b := by injection e with e; injection e
            subst e1
            refine ⟨by have := W.out.ob.lt; omega, fun h => ?_, by simp⟩
            have := (W.out.own.lt _ h).2
            omega
          rintro x w5 ⟨rfl, b5', v5, h5⟩
          have b5 := (((Below.refl (w.heap.size + 1) wr).alloc hle _).alloc (by simp; omega) _).trans b5'
          have OB5 := hid (Ob.below OB.out b5 hbs); have B5 := hid (B.out.trans b5)
          have W5 := hid h5
          clear b5 b5' h5
          go_wp2_with fail
          go_roundw
          case rel => exact ⟨3, v5, by omega, by first | rfl | go_num, hid (W5.out.of_eq (by simp [optK, opt, HV.out])), B5, OB5⟩
          case measure => simp [RowKit.intOf]
      · have hix : ∀ W : World, (Instr.index 71 (.agg #[.int .i64 54, .int .u32 sv, .int .i64 50, .int .u32 ak, .int .i64 51, .int .u32 ti, .int .i64 1, .int .u32 mk, .int .i64 3, .int .u32 ro, .int .i64 6, .int .u32 re]) (.int .i64 3)).run Try.prog W = .ok (.agg #[.int .i64 1, .int .u32 mk]) W := fun _ => by kernel_rfl
        by_cases hv : mk = 0
        · have hvb : (mk != 0) = false := by simp [hv]
          have HV := hid hv; clear hv
          go_wp2_with fail
          go_roundw
          case rel => exact ⟨4, v, by omega, by first | rfl | go_num, hid (W.out.only_nil ((Only.refl [] _).alloc _) |>.of_eq (by simp [optK, opt, HV.out])), hid (B.out.alloc hle _), hid (Ob.below OB.out ((Below.refl (w.heap.size + 1) _).alloc hle _) hbs)⟩
          case measure => simp [RowKit.intOf]
        · have hvb : (mk != 0) = true := by simp [hv]
          have HV := hid hv; clear hv
          go_wp2_with fail
          refine (option1 _ (w.heap.size + 1) (w.heap.size + 1) v _ 1 (some ⟨wr.heap.size + 1, 0, none⟩) 4 4 [mk / 16777216 % 256, mk / 65536 % 256, mk / 256 % 256, mk % 256] (W.out.only_nil (((Only.refl [] _).alloc _).alloc _)) (by simp [head_len]; have := optK_len sv ak ti mk ro re 3; omega) ?_ (by intro e; cases e) (by omega) ?_).mono ?_
          · exact lit4 _ _ _ _ _ _ (four_wf mk)
          · intro b off e
            have e1 : wr.heap.size + 1 = b := by injection e with e; injection e
            subst e1
            refine ⟨by have := W.out.ob.lt; omega, fun h => ?_, by simp⟩
            have := (W.out.own.lt _ h).2
            omega
          rintro x w5 ⟨rfl, b5', v5, h5⟩
          have b5 := (((Below.refl (w.heap.size + 1) wr).alloc hle _).alloc (by simp; omega) _).trans b5'
          have OB5 := hid (Ob.below OB.out b5 hbs); have B5 := hid (B.out.trans b5)
          have W5 := hid h5
          clear b5 b5' h5
          go_wp2_with fail
          go_roundw
          case rel => exact ⟨4, v5, by omega, by first | rfl | go_num, hid (W5.out.of_eq (by simp [optK, opt, HV.out])), B5, OB5⟩
          case measure => simp [RowKit.intOf]
      · have hix : ∀ W : World, (Instr.index 71 (.agg #[.int .i64 54, .int .u32 sv, .int .i64 50, .int .u32 ak, .int .i64 51, .int .u32 ti, .int .i64 1, .int .u32 mk, .int .i64 3, .int .u32 ro, .int .i64 6, .int .u32 re]) (.int .i64 4)).run Try.prog W = .ok (.agg #[.int .i64 3, .int .u32 ro]) W := fun _ => by kernel_rfl
        by_cases hv : ro = 0
        · have hvb : (ro != 0) = false := by simp [hv]
          have HV := hid hv; clear hv
          go_wp2_with fail
          go_roundw
          case rel => exact ⟨5, v, by omega, by first | rfl | go_num, hid (W.out.only_nil ((Only.refl [] _).alloc _) |>.of_eq (by simp [optK, opt, HV.out])), hid (B.out.alloc hle _), hid (Ob.below OB.out ((Below.refl (w.heap.size + 1) _).alloc hle _) hbs)⟩
          case measure => simp [RowKit.intOf]
        · have hvb : (ro != 0) = true := by simp [hv]
          have HV := hid hv; clear hv
          go_wp2_with fail
          refine (option1 _ (w.heap.size + 1) (w.heap.size + 1) v _ 3 (some ⟨wr.heap.size + 1, 0, none⟩) 4 4 [ro / 16777216 % 256, ro / 65536 % 256, ro / 256 % 256, ro % 256] (W.out.only_nil (((Only.refl [] _).alloc _).alloc _)) (by simp [head_len]; have := optK_len sv ak ti mk ro re 4; omega) ?_ (by intro e; cases e) (by omega) ?_).mono ?_
          · exact lit4 _ _ _ _ _ _ (four_wf ro)
          · intro b off e
            have e1 : wr.heap.size + 1 = b := by injection e with e; injection e
            subst e1
            refine ⟨by have := W.out.ob.lt; omega, fun h => ?_, by simp⟩
            have := (W.out.own.lt _ h).2
            omega
          rintro x w5 ⟨rfl, b5', v5, h5⟩
          have b5 := (((Below.refl (w.heap.size + 1) wr).alloc hle _).alloc (by simp; omega) _).trans b5'
          have OB5 := hid (Ob.below OB.out b5 hbs); have B5 := hid (B.out.trans b5)
          have W5 := hid h5
          clear b5 b5' h5
          go_wp2_with fail
          go_roundw
          case rel => exact ⟨5, v5, by omega, by first | rfl | go_num, hid (W5.out.of_eq (by simp [optK, opt, HV.out])), B5, OB5⟩
          case measure => simp [RowKit.intOf]
      · have hix : ∀ W : World, (Instr.index 71 (.agg #[.int .i64 54, .int .u32 sv, .int .i64 50, .int .u32 ak, .int .i64 51, .int .u32 ti, .int .i64 1, .int .u32 mk, .int .i64 3, .int .u32 ro, .int .i64 6, .int .u32 re]) (.int .i64 5)).run Try.prog W = .ok (.agg #[.int .i64 6, .int .u32 re]) W := fun _ => by kernel_rfl
        by_cases hv : re = 0
        · have hvb : (re != 0) = false := by simp [hv]
          have HV := hid hv; clear hv
          go_wp2_with fail
          go_roundw
          case rel => exact ⟨6, v, by omega, by first | rfl | go_num, hid (W.out.only_nil ((Only.refl [] _).alloc _) |>.of_eq (by simp [optK, opt, HV.out])), hid (B.out.alloc hle _), hid (Ob.below OB.out ((Below.refl (w.heap.size + 1) _).alloc hle _) hbs)⟩
          case measure => simp [RowKit.intOf]
        · have hvb : (re != 0) = true := by simp [hv]
          have HV := hid hv; clear hv
          go_wp2_with fail
          refine (option1 _ (w.heap.size + 1) (w.heap.size + 1) v _ 6 (some ⟨wr.heap.size + 1, 0, none⟩) 4 4 [re / 16777216 % 256, re / 65536 % 256, re / 256 % 256, re % 256] (W.out.only_nil (((Only.refl [] _).alloc _).alloc _)) (by simp [head_len]; have := optK_len sv ak ti mk ro re 5; omega) ?_ (by intro e; cases e) (by omega) ?_).mono ?_
          · exact lit4 _ _ _ _ _ _ (four_wf re)
          · intro b off e
            have e1 : wr.heap.size + 1 = b := by injection e with e; injection e
            subst e1
            refine ⟨by have := W.out.ob.lt; omega, fun h => ?_, by simp⟩
            have := (W.out.own.lt _ h).2
            omega
          rintro x w5 ⟨rfl, b5', v5, h5⟩
          have b5 := (((Below.refl (w.heap.size + 1) wr).alloc hle _).alloc (by simp; omega) _).trans b5'
          have OB5 := hid (Ob.below OB.out b5 hbs); have B5 := hid (B.out.trans b5)
          have W5 := hid h5
          clear b5 b5' h5
          go_wp2_with fail
          go_roundw
          case rel => exact ⟨6, v5, by omega, by first | rfl | go_num, hid (W5.out.of_eq (by simp [optK, opt, HV.out])), B5, OB5⟩
          case measure => simp [RowKit.intOf]
      · clear hle
        go_wp2_with fail
        refine (wrt.byte1 _ _ _ _ _ 255 W.out (by simp [head_len]; have := optK_len sv ak ti mk ro re 6; omega)).mono ?_
        rintro x w15 ⟨rfl, b15, v15, h15⟩
        have OB := hid (Ob.below OB.out b15 hbs); have B := hid (B.out.trans b15); have W := hid h15; clear b15 h15
        go_wp2_with fail
        refine (wrt.bytes1 _ _ _ _ _ W.out (by simp [head_len]; have := optK_len sv ak ti mk ro re 6; omega)).mono ?_
        rintro x w20 ⟨v20, rfl, hv, o20⟩
        have V := hid hv; have Q := hid (only_below' Q1.out B.out (by simp))
        have Q2 := hid (Q.out.trans o20); have hq := Q.out.size
        clear hv o20
        go_wp2
        go_ret2
        refine ⟨_, rfl, ?_, Q2.out⟩
        refine Own.mono_base ?_ hq
        have h9 := V.out
        simpa [enc, optK] using h9
end Go.Proofs.Ytdpmjghdmpaehaa.ls
