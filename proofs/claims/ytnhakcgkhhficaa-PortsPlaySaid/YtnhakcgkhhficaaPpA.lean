/-
  Chapter 11 (udp): a datagram as bytes, by a walk of each text. Conditions: none but those typed.
-/
import Derived.Test.YtnhakcgkhhficaaPsd11
import Derived.Test.YtnhakcgkhhficaaHlp11
import Derived.Test.YtnhakcgkhhficaaStc
import Derived.OwnWalk
import Derived.Maps.AppendAt
import Derived.StillTailTactics
import Derived.Deep.RegionHeld3
import Derived.Test.YtnhakcgkhhficaaRga
import Derived.Test.YtnhakcgkhhficaaSrw
import Derived.Test.YtnhakcgkhhficaaCpy
namespace Go.Proofs.Ytnhakcgkhhficaa.udp
set_option linter.unusedVariables false
set_option linter.unusedSimpArgs false
open Go.ChangeShapes Go.WideShapes Go.ChangeAt Go.RowKit Go.IntWalk Go.Lib
set_option maxHeartbeats 4000000 in
theorem sums1 (w : World) (fr to : Int) (A : Option Addr) (n c : Nat) (l : List Int) (hl : Rd .u8 w A n l) (hc0 : A = none → c = 0) (hn : n ≤ 100000) :
    Calls Try.prog 37 #[.int .u32 fr, .int .u32 to, .slice A n c] w fun x w' => x = .returned (.int .i64 (oct.sumF (psd.psd fr to 17 n ++ l))) ∧ Only [] w w' := by
  have HLen := hid hl.len
  have HL := hid hl; clear hl
  have HC := hid hc0; clear hc0
  have W : Hid (wrt.Wr (w.alloc (.cells #[.slice none 0 0] 97)) w.heap.size w.heap.size (.slice none 0 0) []) := hid ⟨Ob.new _ _ _, Own.nil _ _ _ _, Nat.le_refl _⟩
  have B : Hid (Below w.heap.size w (w.alloc (.cells #[.slice none 0 0] 97))) := hid ((Below.refl _ _).alloc (Nat.le_refl _) _)
  go_enter Try.func37, Try.ntmps37
  go_wp2_with fail
  refine (wrt.four1 _ _ _ _ _ fr W.out (by simp; try omega)).mono ?_
  rintro x w2 ⟨rfl, b2, v2, h2⟩
  have B := hid (B.out.trans b2); have W := hid h2; clear b2 h2
  go_wp2_with fail
  refine (wrt.four1 _ _ _ _ _ to W.out (by simp; try omega)).mono ?_
  rintro x w3 ⟨rfl, b3, v3, h3⟩
  have B := hid (B.out.trans b3); have W := hid h3; clear b3 h3
  go_wp2_with fail
  refine (wrt.two1 _ _ _ _ _ 17 W.out (by simp; try omega)).mono ?_
  rintro x w4 ⟨rfl, b4, v4, h4⟩
  have B := hid (B.out.trans b4); have W := hid h4; clear b4 h4
  go_wp2_with fail
  refine (wrt.two1 _ _ _ _ _ n W.out (by simp; try omega)).mono ?_
  rintro x w5 ⟨rfl, b5, v5, h5⟩
  have B := hid (B.out.trans b5); have W := hid h5; clear b5 h5
  go_wp2_with fail
  refine (wrt.raw1 _ _ _ _ _ A n c l W.out (by simp; try omega) (HL.out.below B.out (Nat.le_refl _)) HC.out (by omega)).mono ?_
  rintro x w6 ⟨rfl, b6, v6, h6⟩
  have B := hid (B.out.trans b6); have W := hid h6; clear b6 h6
  go_wp2_with fail
  refine (wrt.bytes1 _ _ _ _ _ W.out (by simp [HLen.out]; omega)).mono ?_
  rintro x w20 ⟨v20, rfl, hv, o20⟩
  have Q := hid (only_below' (Only.refl [] w) B.out (Nat.le_refl _))
  have Q2 := hid (Q.out.trans o20)
  have h9 : Own .u8 5 w20 w6.heap.size v20 (psd.psd fr to 17 n ++ l) := by simpa [psd.psd] using hv
  obtain ⟨A20, cap20, ev20, _, _, hr20, _⟩ := h9.slice
  have R20 := hid hr20
  have hpl : (psd.psd fr to 17 n ++ l).length = 12 + n := by simp [psd.psd, HLen.out]; omega
  have HPL := hid hpl; clear hpl
  clear hv o20 h9 hr20
  subst ev20
  generalize hps : psd.psd fr to 17 n ++ l = ps at *
  have HPS := hid hps; clear hps
  go_wp2_with fail
  refine (oct.sum1 _ A20 _ cap20 ps R20.out (by rw [HPL.out]; omega)).mono ?_
  rintro x w21 ⟨rfl, m21, rfl⟩
  go_wp2
  go_ret
  exact ⟨rInt (by rw [HPS.out]), Q2.out.drewN _⟩
/-- A datagram's bytes, with a sum s. -/
def body (fp tp s : Int) (l : List Int) : List Int :=
  fp / 256 % 256 :: fp % 256 :: tp / 256 % 256 :: tp % 256 :: (8 + (l.length : Int)) / 256 % 256 :: (8 + (l.length : Int)) % 256 :: s / 256 % 256 :: s % 256 :: l
theorem body_len (fp tp s : Int) (l : List Int) : (body fp tp s l).length = 8 + l.length := by simp [body]; omega
set_option maxHeartbeats 4000000 in
theorem write1 (w : World) (fr fp to tp : Int) (A : Option Addr) (n c : Nat) (s : Int) (l : List Int) (hl : Rd .u8 w A n l) (hc0 : A = none → c = 0) (hn : n ≤ 70000) :
    Calls Try.prog 38 #[.agg #[.int .u32 fr, .int .i64 fp, .int .u32 to, .int .i64 tp, .slice A n c], .int .i64 s] w fun x w' => ∃ v, x = .returned v ∧ Own .u8 5 w' w.heap.size v (body fp tp s l) ∧ Only [] w w' := by
  have HLen := hid hl.len
  have HL := hid hl; clear hl
  have HC := hid hc0; clear hc0
  have OB : Hid (Ob ((w.alloc (.cells #[.int .u32 fr, .int .i64 fp, .int .u32 to, .int .i64 tp, .slice A n c] 32)).alloc (.cells #[.slice none 0 0] 97)) w.heap.size 32 #[.int .u32 fr, .int .i64 fp, .int .u32 to, .int .i64 tp, .slice A n c]) := hid ((Ob.new _ _ _).alloc _)
  have Q1 : Hid (Only [] w (w.alloc (.cells #[.int .u32 fr, .int .i64 fp, .int .u32 to, .int .i64 tp, .slice A n c] 32))) := hid ((Only.refl [] w).alloc _)
  have hbs : w.heap.size < w.heap.size + 1 := by omega
  have W : Hid (wrt.Wr ((w.alloc (.cells #[.int .u32 fr, .int .i64 fp, .int .u32 to, .int .i64 tp, .slice A n c] 32)).alloc (.cells #[.slice none 0 0] 97)) (w.heap.size + 1) (w.heap.size + 1) (.slice none 0 0) []) := hid ⟨by simpa using Ob.new (w.alloc (.cells #[.int .u32 fr, .int .i64 fp, .int .u32 to, .int .i64 tp, .slice A n c] 32)) _ _, Own.nil _ _ _ _, Nat.le_refl _⟩
  have B : Hid (Below (w.heap.size + 1) (w.alloc (.cells #[.int .u32 fr, .int .i64 fp, .int .u32 to, .int .i64 tp, .slice A n c] 32)) ((w.alloc (.cells #[.int .u32 fr, .int .i64 fp, .int .u32 to, .int .i64 tp, .slice A n c] 32)).alloc (.cells #[.slice none 0 0] 97))) := hid ((Below.refl _ _).alloc (by simp) _)
  have HL1 := hid (HL.out.only_nil Q1.out)
  go_enter Try.func38, Try.ntmps38
  have k0 := OB.out.cell 0; have k1 := OB.out.cell 1; have k2 := OB.out.cell 2; have k3 := OB.out.cell 3; have k4 := OB.out.cell 4
  go_wp2_with fail
  clear k0 k1 k2 k3 k4
  refine (wrt.two1 _ _ _ _ _ fp W.out (by simp; try omega)).mono ?_
  rintro x w2 ⟨rfl, b2, v2, h2⟩
  have OB := hid (Ob.below OB.out b2 hbs); have B := hid (B.out.trans b2); have W := hid h2; clear b2 h2
  have k0 := OB.out.cell 0; have k1 := OB.out.cell 1; have k2 := OB.out.cell 2; have k3 := OB.out.cell 3; have k4 := OB.out.cell 4
  go_wp2_with fail
  clear k0 k1 k2 k3 k4
  refine (wrt.two1 _ _ _ _ _ tp W.out (by simp; try omega)).mono ?_
  rintro x w3 ⟨rfl, b3, v3, h3⟩
  have OB := hid (Ob.below OB.out b3 hbs); have B := hid (B.out.trans b3); have W := hid h3; clear b3 h3
  have k0 := OB.out.cell 0; have k1 := OB.out.cell 1; have k2 := OB.out.cell 2; have k3 := OB.out.cell 3; have k4 := OB.out.cell 4
  go_wp2_with fail
  clear k0 k1 k2 k3 k4
  refine (wrt.two1 _ _ _ _ _ (8 + (n : Int)) W.out (by simp; try omega)).mono ?_
  rintro x w4 ⟨rfl, b4, v4, h4⟩
  have OB := hid (Ob.below OB.out b4 hbs); have B := hid (B.out.trans b4); have W := hid h4; clear b4 h4
  have k0 := OB.out.cell 0; have k1 := OB.out.cell 1; have k2 := OB.out.cell 2; have k3 := OB.out.cell 3; have k4 := OB.out.cell 4
  go_wp2_with fail
  clear k0 k1 k2 k3 k4
  refine (wrt.two1 _ _ _ _ _ s W.out (by simp; try omega)).mono ?_
  rintro x w5 ⟨rfl, b5, v5, h5⟩
  have OB := hid (Ob.below OB.out b5 hbs); have B := hid (B.out.trans b5); have W := hid h5; clear b5 h5
  have k0 := OB.out.cell 0; have k1 := OB.out.cell 1; have k2 := OB.out.cell 2; have k3 := OB.out.cell 3; have k4 := OB.out.cell 4
  go_wp2_with fail
  clear k0 k1 k2 k3 k4
  refine (wrt.raw1 _ _ _ _ _ A n c l W.out (by simp; try omega) (HL1.out.below B.out (by simp)) HC.out (by omega)).mono ?_
  rintro x w6 ⟨rfl, b6, v6, h6⟩
  have OB := hid (Ob.below OB.out b6 hbs); have B := hid (B.out.trans b6); have W := hid h6; clear b6 h6
  go_wp2_with fail
  refine (wrt.bytes1 _ _ _ _ _ W.out (by simp [HLen.out]; omega)).mono ?_
  rintro x w20 ⟨v20, rfl, hv, o20⟩
  have V := hid hv; have Q := hid (only_below' Q1.out B.out (by simp))
  have Q2 := hid (Q.out.trans o20); have hq := Q.out.size
  obtain ⟨A20, cap20, ev20, _, _, _, _⟩ := hv.slice
  clear hv o20
  subst ev20
  go_wp2
  go_ret
  refine ⟨_, rfl, ?_, Q2.out⟩
  refine Own.mono_base ?_ hq
  have h9 := V.out
  simpa [body, HLen.out] using h9
end Go.Proofs.Ytnhakcgkhhficaa.udp
/-
  Chapter 11 (udp): Encode, by a walk of its text. Conditions: none but those typed.
-/
namespace Go.Proofs.Ytnhakcgkhhficaa.udp
set_option linter.unusedVariables false
set_option linter.unusedSimpArgs false
open Go.ChangeShapes Go.WideShapes Go.ChangeAt Go.RowKit Go.IntWalk Go.Lib
theorem port1 (w : World) (x y : Int) (h : y ≤ x) (h' : x ≤ 65535) : Calls Try.prog 34 #[.int .i64 x, .int .i64 y] w fun e w' => e = .returned (.bool true) ∧ w = w' := by
  go_enter Try.func34, Try.ntmps34
  go_wp2
  go_ret
  exact ⟨rfl, rfl⟩
theorem port0 (w : World) (x y : Int) (h : x < y ∨ 65535 < x) : Calls Try.prog 34 #[.int .i64 x, .int .i64 y] w fun e w' => e = .returned (.bool false) ∧ w = w' := by
  by_cases h1 : x < y
  · have d1 : decide (y ≤ x) = false := by simpa using h1
    go_enter Try.func34, Try.ntmps34
    go_wp2
    go_ret
    exact ⟨rfl, rfl⟩
  · have d1 : decide (y ≤ x) = true := by simpa using (by omega : y ≤ x)
    have d2 : decide (x ≤ 65535) = false := by simpa using (by omega : 65535 < x)
    clear h
    go_enter Try.func34, Try.ntmps34
    go_wp2
    go_ret
    exact ⟨rfl, rfl⟩
def Good (fp tp : Int) : Prop := (0 ≤ fp ∧ fp ≤ 65535) ∧ (0 ≤ tp ∧ tp ≤ 65535)
/-- The sum that is written, ahead of its turn at nothing. -/
def sumU (fr fp to tp : Int) (l : List Int) : Int := oct.sumF (psd.psd fr to 17 (8 + l.length : Nat) ++ body fp tp 0 l)
def fixU (s : Int) : Int := if s = 0 then 65535 else s
def encU (fr fp to tp : Int) (l : List Int) : List Int := body fp tp (fixU (sumU fr fp to tp l)) l
theorem own_cap2 {k : IntKind} {e : TypeId} {w : World} {base : Nat} {v : Value} {l : List Int} {A : Option Addr} {n cap : Nat} (h : Own k e w base v l) (ev : v = .slice A n cap) : A = none → cap = 0 := by
  intro h0
  rcases h.1.2 with ⟨hv, _⟩ | ⟨g', cap', cur, hv, _⟩
  · rw [ev] at hv; injection hv
  · rw [ev, h0] at hv; cases hv
set_option maxHeartbeats 4000000 in
theorem enc1 (w : World) (fr fp to tp : Int) (A : Option Addr) (n c : Nat) (l : List Int) (hl : Rd .u8 w A n l) (hc0 : A = none → c = 0) (hg : Good fp tp) (hn : n ≤ 65507) :
    Calls Try.prog 20 #[.agg #[.int .u32 fr, .int .i64 fp, .int .u32 to, .int .i64 tp, .slice A n c]] w fun x w' => ∃ v, x = .returned (.tuple #[v, .int .i64 0]) ∧ Own .u8 5 w' w.heap.size v (encU fr fp to tp l) ∧ Only [] w w' := by
  have HLen := hid hl.len
  have HL := hid hl; clear hl
  have HC := hid hc0; clear hc0
  obtain ⟨⟨g1, g2⟩, g3, g4⟩ := hg
  have hnn : ¬ 65507 < n := by omega
  have HSU : Hid (oct.sumF (psd.psd fr to 17 (8 + n : Nat) ++ body fp tp 0 l) = sumU fr fp to tp l) := hid (by unfold sumU; rw [HLen.out])
  have OB : Hid (Ob (w.alloc (.cells #[.int .u32 fr, .int .i64 fp, .int .u32 to, .int .i64 tp, .slice A n c] 32)) w.heap.size 32 #[.int .u32 fr, .int .i64 fp, .int .u32 to, .int .i64 tp, .slice A n c]) := hid (Ob.new _ _ _)
  have QB : Hid (Only [] w (w.alloc (.cells #[.int .u32 fr, .int .i64 fp, .int .u32 to, .int .i64 tp, .slice A n c] 32))) := hid ((Only.refl [] w).alloc _)
  go_enter Try.func20, Try.ntmps20
  have k0 := OB.out.cell 0; have k1 := OB.out.cell 1; have k2 := OB.out.cell 2; have k3 := OB.out.cell 3; have k4 := OB.out.cell 4
  go_wp2_with fail
  refine (port1 _ fp 0 g1 g2).mono ?_
  rintro x w1 ⟨rfl, hw⟩
  subst hw
  go_wp2_with fail
  refine (port1 _ tp 0 g3 g4).mono ?_
  rintro x w1 ⟨rfl, hw⟩
  subst hw
  go_wp2_with fail
  clear k0 k1 k2 k3 k4
  refine wp_region_noPanic ?_
  refine rgn.regionT (R := Only []) (by kernel_rfl) (Only.refl []) (fun _ _ _ => Only.trans) (fun _ _ _ _ _ h => h) (.y 0 (.y 1 (.y 2 (.y 3 (.y 4 (.e 5 (.e 6 (.e 7 .z)))))))) (by kernel_rfl) (fun W hWd => ?_)
  have HWd := hid hWd; clear hWd
  have OBW := hid (Ob.eq_drew OB.out HWd.out); have QW : Hid (Only [] w W) := hid (Only.eq_drew QB.out HWd.out)
  clear HWd
  refine rgn.Walk.ys (v := ?_) rfl rfl rfl ?_ ?_
  rotate_left 1
  · intro W' hW'
    go_simp
    try with_reducible rfl
  try simp only [Act.put, List.setIfInBounds_toArray, List.set_cons_zero, List.set_cons_succ]
  refine rgn.Walk.ys (v := ?_) rfl rfl rfl ?_ ?_
  rotate_left 1
  · intro W' hW'
    have q0 := (OBW.out.only hW' (by simp)).cell 0
    go_simp
    try with_reducible rfl
  try simp only [Act.put, List.setIfInBounds_toArray, List.set_cons_zero, List.set_cons_succ]
  refine rgn.Walk.ys (v := ?_) rfl rfl rfl ?_ ?_
  rotate_left 1
  · intro W' hW'
    go_simp
    try with_reducible rfl
  try simp only [Act.put, List.setIfInBounds_toArray, List.set_cons_zero, List.set_cons_succ]
  refine rgn.Walk.ys (v := ?_) rfl rfl rfl ?_ ?_
  rotate_left 1
  · intro W' hW'
    have q0 := (OBW.out.only hW' (by simp)).cell 2
    go_simp
    try with_reducible rfl
  try simp only [Act.put, List.setIfInBounds_toArray, List.set_cons_zero, List.set_cons_succ]
  refine rgn.Walk.ys rfl rfl rfl (fun W' hW' => exec_load 32 _ rfl _ rfl _ _ (OBW.out.only hW' (by simp)) Try.underlying32 rfl (by kernel_rfl)) ?_
  try simp only [Act.put, List.setIfInBounds_toArray, List.set_cons_zero, List.set_cons_succ]
  refine rgn.Walk.es ?_
  refine rgn.stepE rfl rfl (fun K hK => ?_)
  go_simp
  refine (write1 _ fr fp to tp A n c 0 l (HL.out.only_nil QW.out) HC.out (by omega)).mono ?_
  rintro x w2 ⟨v2, rfl, h2, o2⟩
  refine hK _ _ o2 ?_
  clear hK K
  try simp only [Act.put, List.setIfInBounds_toArray, List.set_cons_zero, List.set_cons_succ]
  obtain ⟨A2, cap2, ev2, _, _, r2, _⟩ := h2.slice
  have N2 := hid (own_cap2 h2 ev2)
  rw [body_len, HLen.out] at ev2 r2
  subst ev2
  have R2 := hid r2; clear r2 h2
  have OBW := hid (OBW.out.only o2 (by simp)); have QW := hid (QW.out.trans o2); clear o2
  refine rgn.Walk.es ?_
  refine rgn.stepE rfl rfl (fun K hK => ?_)
  go_simp
  refine (sums1 _ fr to A2 (8 + n) cap2 _ R2.out N2.out (by omega)).mono ?_
  rintro x w3 ⟨rfl, o3⟩
  rw [HSU.out]
  refine hK _ _ o3 ?_
  clear hK K R2 N2
  try simp only [Act.put, List.setIfInBounds_toArray, List.set_cons_zero, List.set_cons_succ]
  have OBW := hid (OBW.out.only o3 (by simp)); have QW := hid (QW.out.trans o3); clear o3
  refine rgn.Walk.es ?_
  refine rgn.stepE rfl rfl (fun K hK => ?_)
  go_simp
  refine hK _ _ ((Only.refl []) _) ?_
  clear hK K
  try simp only [Act.put, List.setIfInBounds_toArray, List.set_cons_zero, List.set_cons_succ]
  refine rgn.Walk.zs (NoPanic.normal ?_)
  have HEU : Hid (encU fr fp to tp l = body fp tp (fixU (sumU fr fp to tp l)) l) := hid rfl
  have OB := hid OBW.out; have QB := hid QW.out
  have k0 := OB.out.cell 0; have k1 := OB.out.cell 1; have k2 := OB.out.cell 2; have k3 := OB.out.cell 3; have k4 := OB.out.cell 4
  by_cases hz : sumU fr fp to tp l = 0
  · have HF : Hid (fixU (sumU fr fp to tp l) = 65535) := hid (by unfold fixU; rw [if_pos hz])
    rw [hz]
    clear hz
    go_wp2_with fail
    refine (write1 _ fr fp to tp A n c 65535 l (HL.out.only_nil QB.out) HC.out (by omega)).mono ?_
    rintro x w5 ⟨v5, rfl, h5, o5⟩
    have V5 := hid (h5.mono_base QB.out.size); have Q5 := hid (QB.out.trans o5); obtain ⟨A5, cap5, ev5, _, _, _, _⟩ := h5.slice; clear h5 o5
    subst ev5
    go_wp2
    go_ret2
    exact ⟨_, rfl, by rw [HEU.out, HF.out]; exact V5.out, Q5.out⟩
  · have HF : Hid (fixU (sumU fr fp to tp l) = sumU fr fp to tp l) := hid (by unfold fixU; rw [if_neg hz])
    have hzb : (sumU fr fp to tp l == 0) = false := by simpa using hz
    have HZ := hid hz; clear hz
    generalize sumU fr fp to tp l = s at *
    go_wp2_with fail
    refine (write1 _ fr fp to tp A n c s l (HL.out.only_nil QB.out) HC.out (by omega)).mono ?_
    rintro x w5 ⟨v5, rfl, h5, o5⟩
    have V5 := hid (h5.mono_base QB.out.size); have Q5 := hid (QB.out.trans o5); obtain ⟨A5, cap5, ev5, _, _, _, _⟩ := h5.slice; clear h5 o5
    subst ev5
    go_wp2
    go_ret2
    exact ⟨_, rfl, by rw [HEU.out, HF.out]; exact V5.out, Q5.out⟩
end Go.Proofs.Ytnhakcgkhhficaa.udp
/-
  Chapter 11 (udp): who has which port, over no binding and over one, by a walk of each text. Conditions: none but those typed.
-/
namespace Go.Proofs.Ytnhakcgkhhficaa.udp
set_option linter.unusedVariables false
set_option linter.unusedSimpArgs false
open Go.ChangeShapes Go.WideShapes Go.ChangeAt Go.RowKit Go.IntWalk Go.Lib
theorem idx0 (w : World) (f : Value) : Calls Try.prog 55 #[.slice none 0 0, f] w fun x w' => x = .returned (.int .i64 (-1)) ∧ w = w' := by
  go_enter Try.func55, Try.ntmps55
  go_wp2
  go_loop [8] (fun i => i = .int .i64 0) (fun _ => 0)
  case atStart => rfl
  case round =>
    subst hrel
    go_wp2
    go_ret
    exact ⟨rfl, rfl⟩
theorem has0 (w : World) (f : Value) : Calls Try.prog 50 #[.slice none 0 0, f] w fun x w' => x = .returned (.bool false) ∧ w = w' := by
  go_enter Try.func50, Try.ntmps50
  go_wp2_with fail
  refine (idx0 _ _).mono ?_
  rintro x w' ⟨rfl, rfl⟩
  go_wp2
  go_ret
  exact ⟨rfl, rfl⟩
theorem place0 (w : World) (g : Nat) (id : Int) (h : Ob w g 56 #[.slice none 0 0]) : Calls Try.prog 35 #[.pointer (some ⟨g, 0, none⟩), .int .i64 id] w fun x w' => x = .returned (.int .i64 (-1)) ∧ Only [] w w' := by
  have c0 := h.cell 0
  have hlt := h.lt
  clear h
  have QB : Hid (Only [] w (w.alloc (.cells #[.int .i64 id] 3))) := hid ((Only.refl [] w).alloc _)
  go_enter Try.func35, Try.ntmps35
  go_wp2_with fail
  refine (idx0 _ _).mono ?_
  rintro x w' ⟨rfl, rfl⟩
  go_wp2
  go_ret
  exact ⟨rfl, QB.out⟩
theorem room0 (w : World) (g : Nat) (id : Int) (h : Ob w g 56 #[.slice none 0 0]) : Calls Try.prog 30 #[.pointer (some ⟨g, 0, none⟩), .int .i64 id] w fun x w' => x = .returned (.int .i64 0) ∧ Only [] w w' := by
  have H := hid h; clear h
  go_enter Try.func30, Try.ntmps30
  go_wp2_with fail
  refine (place0 w g id H.out).mono ?_
  rintro x w' ⟨rfl, o⟩
  have QB := hid o
  have c0 := (H.out.only o (by simp)).cell 0
  clear o
  go_wp2
  go_ret
  exact ⟨rfl, QB.out⟩
/-- The functions that are handed to the searches. -/
theorem isId (w : World) (g : Nat) (i a p pa pp id : Int) (h : Ob w g 3 #[.int .i64 id]) : Calls Try.prog 56 #[.agg #[.int .i64 i, .int .u32 a, .int .i64 p, .int .u32 pa, .int .i64 pp], .pointer (some ⟨g, 0, none⟩)] w fun x w' => x = .returned (.bool (i == id)) ∧ Only [] w w' := by
  have c0 := h.cell 0
  have hlt := h.lt
  clear h
  have QB : Hid (Only [] w (w.alloc (.cells #[.int .i64 i, .int .u32 a, .int .i64 p, .int .u32 pa, .int .i64 pp] 74))) := hid ((Only.refl [] w).alloc _)
  go_enter Try.func56, Try.ntmps56
  go_wp2
  go_ret
  exact ⟨rfl, QB.out⟩
theorem isTaken (w : World) (g g' : Nat) (i a p pa pp port ad : Int) (h : Ob w g 3 #[.int .i64 port]) (h' : Ob w g' 23 #[.int .u32 ad]) : Calls Try.prog 51 #[.agg #[.int .i64 i, .int .u32 a, .int .i64 p, .int .u32 pa, .int .i64 pp], .pointer (some ⟨g, 0, none⟩), .pointer (some ⟨g', 0, none⟩)] w fun x w' => x = .returned (.bool (decide (p = port ∧ (a = ad ∨ a = 0 ∨ ad = 0)))) ∧ Only [] w w' := by
  have c0 := h.cell 0
  have hlt := h.lt
  have c1 := h'.cell 0
  have hlt1 := h'.lt
  clear h h'
  have QB : Hid (Only [] w (w.alloc (.cells #[.int .i64 i, .int .u32 a, .int .i64 p, .int .u32 pa, .int .i64 pp] 74))) := hid ((Only.refl [] w).alloc _)
  by_cases hp : p = port
  · subst hp
    have hv : ∀ b : Bool, b = decide (a = ad ∨ a = 0 ∨ ad = 0) → b = decide (p = p ∧ (a = ad ∨ a = 0 ∨ ad = 0)) := fun b hb => by simp [hb]
    have HV := hid hv; clear hv
    by_cases h1 : a = ad
    · subst h1
      go_enter Try.func51, Try.ntmps51
      go_wp2
      go_ret
      exact ⟨rBool (by simp), QB.out⟩
    · have e1 : (a == ad) = false := by simpa using h1
      by_cases h2 : a = 0
      · subst h2
        clear h1
        go_enter Try.func51, Try.ntmps51
        go_wp2
        go_ret
        exact ⟨rBool (by simp), QB.out⟩
      · have e2 : (a == 0) = false := by simpa using h2
        by_cases h3 : ad = 0
        · subst h3
          clear h1 h2
          go_enter Try.func51, Try.ntmps51
          go_wp2
          go_ret
          exact ⟨rBool (by simp), QB.out⟩
        · have e3 : (ad == 0) = false := by simpa using h3
          have H1 := hid h1; have H2 := hid h2; have H3 := hid h3
          clear h1 h2 h3
          go_enter Try.func51, Try.ntmps51
          go_wp2
          go_ret
          exact ⟨rBool (by simp [H1.out, H2.out, H3.out]), QB.out⟩
  · have e0 : (p == port) = false := by simpa using hp
    have HX : Hid (decide (p = port ∧ (a = ad ∨ a = 0 ∨ ad = 0)) = false) := hid (by simp [hp])
    clear hp
    go_enter Try.func51, Try.ntmps51
    go_wp2
    go_ret
    exact ⟨rBool HX.out.symm, QB.out⟩
end Go.Proofs.Ytnhakcgkhhficaa.udp
/-
  Chapter 11 (udp): a binding is looked for by its id, by a walk of the text. Conditions: none but those typed.
-/
namespace Go.Proofs.Ytnhakcgkhhficaa.udp
set_option linter.unusedVariables false
set_option linter.unusedSimpArgs false
open Go.ChangeShapes Go.WideShapes Go.ChangeAt Go.RowKit Go.IntWalk Go.Lib
/-- n bindings lie at A: their ids, addresses, ports and peers. -/
def Bnds (w : World) (A : Option Addr) (n : Nat) (I D P E F : Nat → Int) : Prop :=
  0 < n → ∃ b off, A = some ⟨b, off, none⟩ ∧ b < w.heap.size ∧ ∀ i, i < n → w.cell? ⟨b, off + i * 5, none⟩ = some (.int .i64 (I i)) ∧ w.cell? ⟨b, off + i * 5 + 1, none⟩ = some (.int .u32 (D i)) ∧ w.cell? ⟨b, off + i * 5 + 2, none⟩ = some (.int .i64 (P i)) ∧ w.cell? ⟨b, off + i * 5 + 3, none⟩ = some (.int .u32 (E i)) ∧ w.cell? ⟨b, off + i * 5 + 4, none⟩ = some (.int .i64 (F i))
theorem Bnds.only_nil {w w' : World} {A : Option Addr} {n : Nat} {I D P E F : Nat → Int} (h : Bnds w A n I D P E F) (o : Only [] w w') : Bnds w' A n I D P E F := fun h0 => by
  obtain ⟨b, off, e, hb, hc⟩ := h h0
  refine ⟨b, off, e, Nat.lt_of_lt_of_le hb o.size, fun i hi => ?_⟩
  obtain ⟨h1, h2, h3, h4, h5⟩ := hc i hi
  exact ⟨o.keep h1, o.keep h2, o.keep h3, o.keep h4, o.keep h5⟩
/-- Where the first binding of an id stands. -/
def IdxEnd (I : Nat → Int) (id : Int) (n : Nat) (w : World) (x : Ending) (w' : World) : Prop :=
  ∃ r : Int, x = .returned (.int .i64 r) ∧ ((r = -1 ∧ ∀ i, i < n → I i ≠ id) ∨ ∃ k : Nat, k < n ∧ r = k ∧ I k = id ∧ ∀ i, i < k → I i ≠ id) ∧ Only [] w w'
set_option maxHeartbeats 2000000 in
theorem idxId (w : World) (A : Option Addr) (n c : Nat) (I D P E F : Nat → Int) (g : Nat) (id : Int) (h : Bnds w A n I D P E F) (hg : Ob w g 3 #[.int .i64 id]) (hn : n ≤ 140737488355328) :
    Calls Try.prog 55 #[.slice A n c, .func (.func 56) #[] #[.pointer (some ⟨g, 0, none⟩)]] w (IdxEnd I id n w) := by
  have H := hid h; have HG := hid hg; clear h hg
  go_enter Try.func55, Try.ntmps55
  go_wp2
  go_loopw [8] (fun i wr => ∃ k : Nat, k ≤ n ∧ i = .int .i64 k ∧ Hid (∀ i, i < k → I i ≠ id) ∧ Hid (Only [] w wr)) (fun i _ => n - (intOf i).toNat)
  case atStart => exact ⟨0, by omega, rfl, hid (fun i hi => absurd hi (by omega)), hid (Only.refl _ _)⟩
  case round =>
    obtain ⟨k, hk, rfl, HN, HB⟩ := hrel
    by_cases hlt : k < n
    · obtain ⟨b, off, rfl, hb, hc⟩ := (H.out.only_nil HB.out) (by omega)
      obtain ⟨q0, q1, q2, q3, q4⟩ := hc k hlt
      clear hc
      go_wp2_with fail
      refine (isId _ g (I k) (D k) (P k) (E k) (F k) id (HG.out.only HB.out (by simp))).mono ?_
      rintro x w2 ⟨rfl, o2⟩
      have HB := hid (HB.out.trans o2); clear o2 q0 q1 q2 q3 q4
      by_cases he : I k = id
      · have HE := hid he
        rw [show (I k == id) = true from by simpa using he]
        clear he
        go_wp2
        go_ret
        exact ⟨_, rfl, .inr ⟨k, hlt, rfl, HE.out, HN.out⟩, HB.out⟩
      · have HE := hid he
        rw [show (I k == id) = false from by simpa using he]
        clear he
        go_wp2
        go_roundw
        case rel => exact ⟨k + 1, by omega, by go_num, hid (fun i hi => by
          rcases Nat.lt_or_ge i k with h1 | h1
          · exact HN.out i h1
          · obtain rfl : i = k := by omega
            exact HE.out), HB⟩
        case measure => simp [intOf]; omega
    · obtain rfl : k = n := by omega
      go_wp2
      go_ret
      exact ⟨_, rfl, .inl ⟨rfl, HN.out⟩, HB.out⟩
end Go.Proofs.Ytnhakcgkhhficaa.udp
/-
  Chapter 11 (udp): a binding in the way is looked for, by a walk of the text. Conditions: none but those typed.
-/
namespace Go.Proofs.Ytnhakcgkhhficaa.udp
set_option linter.unusedVariables false
set_option linter.unusedSimpArgs false
open Go.ChangeShapes Go.WideShapes Go.ChangeAt Go.RowKit Go.IntWalk Go.Lib
/-- Is a binding in the way of a port? -/
def inWay (D P : Nat → Int) (port ad : Int) (k : Nat) : Bool := decide (P k = port ∧ (D k = ad ∨ D k = 0 ∨ ad = 0))
/-- Where the first binding in the way stands. -/
def TknEnd (T : Nat → Bool) (n : Nat) (w : World) (x : Ending) (w' : World) : Prop :=
  ∃ r : Int, x = .returned (.int .i64 r) ∧ ((r = -1 ∧ ∀ i, i < n → T i = false) ∨ ∃ k : Nat, k < n ∧ r = k ∧ T k = true ∧ ∀ i, i < k → T i = false) ∧ Only [] w w'
set_option maxHeartbeats 2000000 in
theorem idxTkn (w : World) (A : Option Addr) (n c : Nat) (I D P E F : Nat → Int) (g g' : Nat) (port ad : Int) (h : Bnds w A n I D P E F) (hg : Ob w g 3 #[.int .i64 port]) (hg' : Ob w g' 23 #[.int .u32 ad]) (hn : n ≤ 140737488355328) :
    Calls Try.prog 55 #[.slice A n c, .func (.func 51) #[] #[.pointer (some ⟨g, 0, none⟩), .pointer (some ⟨g', 0, none⟩)]] w (TknEnd (inWay D P port ad) n w) := by
  have H := hid h; have HG := hid hg; have HG' := hid hg'; clear h hg hg'
  go_enter Try.func55, Try.ntmps55
  go_wp2
  go_loopw [8] (fun i wr => ∃ k : Nat, k ≤ n ∧ i = .int .i64 k ∧ Hid (∀ i, i < k → inWay D P port ad i = false) ∧ Hid (Only [] w wr)) (fun i _ => n - (intOf i).toNat)
  case atStart => exact ⟨0, by omega, rfl, hid (fun i hi => absurd hi (by omega)), hid (Only.refl _ _)⟩
  case round =>
    obtain ⟨k, hk, rfl, HN, HB⟩ := hrel
    by_cases hlt : k < n
    · obtain ⟨b, off, rfl, hb, hc⟩ := (H.out.only_nil HB.out) (by omega)
      obtain ⟨q0, q1, q2, q3, q4⟩ := hc k hlt
      clear hc
      go_wp2_with fail
      refine (isTaken _ g g' (I k) (D k) (P k) (E k) (F k) port ad (HG.out.only HB.out (by simp)) (HG'.out.only HB.out (by simp))).mono ?_
      rintro x w2 ⟨rfl, o2⟩
      have HB := hid (HB.out.trans o2); clear o2 q0 q1 q2 q3 q4
      rw [show decide (P k = port ∧ (D k = ad ∨ D k = 0 ∨ ad = 0)) = inWay D P port ad k from rfl]
      by_cases he : inWay D P port ad k = true
      · have HE := hid he
        rw [he]
        clear he
        go_wp2
        go_ret
        exact ⟨_, rfl, .inr ⟨k, hlt, rfl, HE.out, HN.out⟩, HB.out⟩
      · have he : inWay D P port ad k = false := by simpa using he
        have HE := hid he
        rw [he]
        clear he
        go_wp2
        go_roundw
        case rel => exact ⟨k + 1, by omega, by go_num, hid (fun i hi => by
          rcases Nat.lt_or_ge i k with h1 | h1
          · exact HN.out i h1
          · obtain rfl : i = k := by omega
            exact HE.out), HB⟩
        case measure => simp [intOf]; omega
    · obtain rfl : k = n := by omega
      go_wp2
      go_ret
      exact ⟨_, rfl, .inl ⟨rfl, HN.out⟩, HB.out⟩
end Go.Proofs.Ytnhakcgkhhficaa.udp
/-
  Chapter 11 (udp): a Ports that holds a list of bindings: who stands where, and what is taken, by a walk of each text. Conditions: none but those typed.
-/
namespace Go.Proofs.Ytnhakcgkhhficaa.udp
set_option linter.unusedVariables false
set_option linter.unusedSimpArgs false
open Go.ChangeShapes Go.WideShapes Go.ChangeAt Go.RowKit Go.IntWalk Go.Lib
/-- A binding: its id, address, port, and its peer's address and port. -/
structure Bd where
  i : Int
  a : Int
  p : Int
  e : Int
  f : Int
def Bd.cs (x : Bd) : List Value := [.int .i64 x.i, .int .u32 x.a, .int .i64 x.p, .int .u32 x.e, .int .i64 x.f]
def bcs : List Bd → List Value
  | [] => []
  | x :: r => x.cs ++ bcs r
theorem bcs_len : ∀ L : List Bd, (bcs L).length = L.length * 5
  | [] => rfl
  | x :: r => by simp [bcs, Bd.cs, bcs_len r]; omega
theorem bcs_app : ∀ L K : List Bd, bcs (L ++ K) = bcs L ++ bcs K
  | [], K => rfl
  | x :: r, K => by simp [bcs, bcs_app r K]
/-- The k-th binding. -/
def gt (L : List Bd) (k : Nat) : Bd := L.getD k ⟨0, 0, 0, 0, 0⟩
theorem bcs_get : ∀ (L : List Bd) (i t : Nat), i < L.length → t < 5 → (bcs L)[i * 5 + t]? = ((gt L i).cs)[t]?
  | x :: r, 0, t, _, ht => by
    simp only [bcs, gt, List.getD_cons_zero, Nat.zero_mul, Nat.zero_add]
    rw [List.getElem?_append_left (by simp [Bd.cs]; omega)]
  | x :: r, i + 1, t, hi, ht => by
    simp only [bcs, gt, List.getD_cons_succ]
    rw [List.getElem?_append_right (by simp [Bd.cs]; omega)]
    have h := bcs_get r i t (by simpa using hi) ht
    simp only [gt] at h
    rw [← h]
    congr 1
    simp [Bd.cs]; omega
/-- Ports in block g, of which the row v holds L. -/
def PV (w : World) (g : Nat) (v : Value) (L : List Bd) : Prop := Ob w g 56 #[v] ∧ w.ownsRow 0 74 5 v L.length (bcs L)
theorem PV.form {w : World} {g : Nat} {v : Value} {L : List Bd} (h : PV w g v L) : ∃ A c, v = .slice A L.length c ∧ Bnds w A L.length (fun k => (gt L k).i) (fun k => (gt L k).a) (fun k => (gt L k).p) (fun k => (gt L k).e) (fun k => (gt L k).f) := by
  obtain ⟨ho, hv⟩ := h
  rcases hv.2 with ⟨hv0, h0⟩ | ⟨b, cap, cur, hv1, hb1, hh, hc1, hc2, hs, ht⟩
  · exact ⟨none, 0, by rw [hv0, h0], fun h => absurd h (by omega)⟩
  · refine ⟨some ⟨b, 0, none⟩, cap, hv1, fun _ => ⟨b, 0, rfl, ?_, fun i hi => ?_⟩⟩
    · exact (hv.lt b (by rw [hv1]; rfl)).2
    · have hc := fun t (ht : t < 5) => hv.cells (g := b) (by rw [hv1]; rfl) (i * 5 + t)
      have key : ∀ t (ht : t < 5) u, ((gt L i).cs)[t]? = some u → w.cell? ⟨b, 0 + i * 5 + t, none⟩ = some u := fun t ht u hu => by
        have h9 := hc t ht u (by rw [bcs_get L i t hi ht]; exact hu)
        rw [addr_plus] at h9
        rw [show 0 + i * 5 + t = 0 + (i * 5 + t) from by omega]
        exact h9
      have k0 := key 0 (by omega) _ rfl
      exact ⟨k0, key 1 (by omega) _ rfl, key 2 (by omega) _ rfl, key 3 (by omega) _ rfl, key 4 (by omega) _ rfl⟩
/-- It stays where neither its block nor its row's is written. -/
theorem PV.only {w w' : World} {g : Nat} {v : Value} {L : List Bd} {S : List Nat} (h : PV w g v L) (o : Only S w w') (h1 : g ∉ S) (h2 : ∀ b, v.ownBlock = some b → b ∉ S) : PV w' g v L := by
  obtain ⟨ho, hv⟩ := h
  refine ⟨ho.only o h1, ⟨hv.1, ?_⟩⟩
  rcases hv.2 with h | ⟨b, cap, cur, hv1, hb1, hh, r⟩
  · exact .inl h
  · refine .inr ⟨b, cap, cur, hv1, hb1, ?_, r⟩
    rw [o.block b (by
      rcases Nat.lt_or_ge b w.heap.size with h | h
      · exact h
      · rw [Array.getElem?_eq_none h] at hh; cases hh) (h2 b (by rw [hv1]; rfl))]
    exact hh
theorem PV.only_nil {w w' : World} {g : Nat} {v : Value} {L : List Bd} (h : PV w g v L) (o : Only [] w w') : PV w' g v L := h.only o (by simp) (by simp)
/-- Where an id's binding stands; -1: nowhere. -/
def spot (L : List Bd) (id : Int) : Int := match L.findIdx? (fun x => x.i == id) with
  | some k => k
  | none => -1
theorem spot_of (L : List Bd) (id r : Int) (h : (r = -1 ∧ ∀ i, i < L.length → (gt L i).i ≠ id) ∨ ∃ k : Nat, k < L.length ∧ r = k ∧ (gt L k).i = id ∧ ∀ i, i < k → (gt L i).i ≠ id) : r = spot L id := by
  have gg : ∀ i (hi : i < L.length), gt L i = L[i] := fun i hi => by simp [gt, hi]
  rcases h with ⟨rfl, h⟩ | ⟨k, hk, rfl, h1, h2⟩
  · have e : L.findIdx? (fun x => x.i == id) = none := by
      rw [List.findIdx?_eq_none_iff]
      intro x hx
      obtain ⟨i, hi, rfl⟩ := List.mem_iff_getElem.1 hx
      have := h i hi
      rw [gg i hi] at this
      simpa using this
    simp [spot, e]
  · have e : L.findIdx? (fun x => x.i == id) = some k := by
      rw [List.findIdx?_eq_some_iff_getElem]
      refine ⟨hk, by rw [← gg k hk]; simpa using h1, fun j hj => ?_⟩
      have := h2 j hj
      rw [gg j (by omega)] at this
      simpa using this
    simp [spot, e]
/-- Does a binding stand in the way? -/
def tkn (L : List Bd) (a p : Int) : Bool := L.any fun x => decide (x.p = p ∧ (x.a = a ∨ x.a = 0 ∨ a = 0))
theorem tkn_of (L : List Bd) (a p q : Int) (h : (q = -1 ∧ ∀ i, i < L.length → inWay (fun k => (gt L k).a) (fun k => (gt L k).p) p a i = false) ∨ ∃ k : Nat, k < L.length ∧ q = k ∧ inWay (fun k => (gt L k).a) (fun k => (gt L k).p) p a k = true ∧ ∀ i, i < k → inWay (fun k => (gt L k).a) (fun k => (gt L k).p) p a i = false) : decide (0 ≤ q) = tkn L a p := by
  have gg : ∀ i (hi : i < L.length), gt L i = L[i] := fun i hi => by simp [gt, hi]
  rcases h with ⟨rfl, h⟩ | ⟨k, hk, rfl, h1, _⟩
  · have e : tkn L a p = false := by
      unfold tkn
      rw [List.any_eq_false]
      intro x hx
      obtain ⟨i, hi, rfl⟩ := List.mem_iff_getElem.1 hx
      have := h i hi
      unfold inWay at this
      simp only [gg i hi] at this
      simpa using this
    rw [e]; rfl
  · have e : tkn L a p = true := by
      unfold tkn
      rw [List.any_eq_true]
      refine ⟨L[k], List.getElem_mem hk, ?_⟩
      unfold inWay at h1
      simp only [gg k hk] at h1
      exact h1
    rw [e]; simp
theorem placeL (w : World) (g : Nat) (v : Value) (L : List Bd) (id : Int) (h : PV w g v L) (hn : L.length ≤ 64) : Calls Try.prog 35 #[.pointer (some ⟨g, 0, none⟩), .int .i64 id] w fun x w' => x = .returned (.int .i64 (spot L id)) ∧ Only [] w w' := by
  obtain ⟨A, c, rfl, hb⟩ := h.form
  have ho := h.1
  have c0 := ho.cell 0
  have hlt := ho.lt
  have QB : Hid (Only [] w (w.alloc (.cells #[.int .i64 id] 3))) := hid ((Only.refl [] w).alloc _)
  have OI : Hid (Ob (w.alloc (.cells #[.int .i64 id] 3)) w.heap.size 3 #[.int .i64 id]) := hid (Ob.new _ _ _)
  have HB := hid hb
  have HS : Hid (∀ r, _ → r = spot L id) := hid (spot_of L id)
  generalize hz : spot L id = z at *
  clear h ho hb hz
  generalize L.length = n at *
  go_enter Try.func35, Try.ntmps35
  go_wp2_with fail
  refine (idxId _ A n c _ _ _ _ _ w.heap.size id (HB.out.only_nil QB.out) OI.out (by omega)).mono ?_
  rintro x w' ⟨r, rfl, hr, o⟩
  have hr1 := HS.out r hr
  subst hr1
  have QB := hid (QB.out.trans o)
  clear o hr
  go_wp2
  go_ret
  exact ⟨rfl, QB.out⟩
/-- Why an id may have no more: 8 it has one, 6 all are there. -/
def roomE (L : List Bd) (id : Int) : Int := if 0 ≤ spot L id then 8 else if 64 ≤ L.length then 6 else 0
theorem roomL (w : World) (g : Nat) (v : Value) (L : List Bd) (id : Int) (h : PV w g v L) (hn : L.length ≤ 64) : Calls Try.prog 30 #[.pointer (some ⟨g, 0, none⟩), .int .i64 id] w fun x w' => x = .returned (.int .i64 (roomE L id)) ∧ Only [] w w' := by
  have H := hid h
  obtain ⟨A, c, rfl, hb⟩ := h.form
  have HO := hid h.1
  clear h hb
  have HP := hid (placeL w g _ L id H.out hn)
  by_cases hs : 0 ≤ spot L id
  · have HE : Hid (roomE L id = 8) := hid (by unfold roomE; rw [if_pos hs])
    generalize spot L id = z at *
    go_enter Try.func30, Try.ntmps30
    go_wp2_with fail
    refine HP.out.mono ?_
    rintro x w' ⟨rfl, o⟩
    have c0 := (HO.out.only o (by simp)).cell 0
    have QB := hid o
    clear o
    go_wp2
    go_ret
    exact ⟨rInt HE.out.symm, QB.out⟩
  · by_cases h64 : 64 ≤ L.length
    · have HE : Hid (roomE L id = 6) := hid (by unfold roomE; rw [if_neg hs, if_pos h64])
      have h65 : ¬ ((L.length : Int) < 64) := by omega
      generalize spot L id = z at *
      generalize L.length = n at *
      go_enter Try.func30, Try.ntmps30
      go_wp2_with fail
      refine HP.out.mono ?_
      rintro x w' ⟨rfl, o⟩
      have c0 := (HO.out.only o (by simp)).cell 0
      have QB := hid o
      clear o
      go_wp2
      go_ret
      exact ⟨rInt HE.out.symm, QB.out⟩
    · have HE : Hid (roomE L id = 0) := hid (by unfold roomE; rw [if_neg hs, if_neg h64])
      have h65 : ((L.length : Int) < 64) := by omega
      generalize spot L id = z at *
      generalize L.length = n at *
      go_enter Try.func30, Try.ntmps30
      go_wp2_with fail
      refine HP.out.mono ?_
      rintro x w' ⟨rfl, o⟩
      have c0 := (HO.out.only o (by simp)).cell 0
      have QB := hid o
      clear o
      go_wp2
      go_ret
      exact ⟨rInt HE.out.symm, QB.out⟩
theorem takenL (w : World) (g : Nat) (v : Value) (L : List Bd) (a p : Int) (h : PV w g v L) (hn : L.length ≤ 64) : Calls Try.prog 31 #[.pointer (some ⟨g, 0, none⟩), .int .u32 a, .int .i64 p] w fun x w' => x = .returned (.bool (tkn L a p)) ∧ Only [] w w' := by
  obtain ⟨A, c, rfl, hb⟩ := h.form
  have ho := h.1
  have c0 := ho.cell 0
  have hlt := ho.lt
  have HB := hid hb
  have HT : Hid (∀ q : Int, _ → decide (0 ≤ q) = tkn L a p) := hid (tkn_of L a p)
  generalize hz : tkn L a p = r at *
  clear h ho hb hz
  generalize L.length = n at *
  have QB : Hid (Only [] w ((w.alloc (.cells #[.int .u32 a] 23)).alloc (.cells #[.int .i64 p] 3))) := hid (((Only.refl [] w).alloc _).alloc _)
  have OA : Hid (Ob ((w.alloc (.cells #[.int .u32 a] 23)).alloc (.cells #[.int .i64 p] 3)) w.heap.size 23 #[.int .u32 a]) := hid ((Ob.new _ _ _).alloc _)
  have OP : Hid (Ob ((w.alloc (.cells #[.int .u32 a] 23)).alloc (.cells #[.int .i64 p] 3)) (w.heap.size + 1) 3 #[.int .i64 p]) := hid (by simpa using Ob.new (w.alloc (.cells #[.int .u32 a] 23)) 3 #[.int .i64 p])
  go_enter Try.func31, Try.ntmps31
  go_wp2_with fail
  have HCF : ∀ (W : World), Hid (Only [] w W) → Ob W (w.heap.size + 1) 3 #[.int .i64 p] → Ob W w.heap.size 23 #[.int .u32 a] → Calls Try.prog 50 #[.slice A n c, .func (.func 51) #[] #[.pointer (some ⟨w.heap.size + 1, 0, none⟩), .pointer (some ⟨w.heap.size, 0, none⟩)]] W fun x w' => x = .returned (.bool r) ∧ Only [] W w' := by
    intro W hW h1 h2
    go_enter Try.func50, Try.ntmps50
    go_wp2_with fail
    refine (idxTkn _ A n c _ _ _ _ _ _ _ _ _ (HB.out.only_nil hW.out) h1 h2 (by omega)).mono ?_
    rintro x w' ⟨z, rfl, hz, o⟩
    have hz2 := HT.out z hz
    have HZ : Hid (decide (0 ≤ z) = r) := hid (by rw [hz2])
    have QW := hid o
    clear hz hz2 o
    go_wp2
    go_ret
    exact ⟨rBool (by rw [← HZ.out]), QW.out⟩
  refine (HCF _ QB OP.out OA.out).mono ?_
  rintro x w' ⟨rfl, o⟩
  have QB := hid (QB.out.trans o)
  clear o HCF
  go_wp2
  go_ret
  exact ⟨rfl, QB.out⟩
end Go.Proofs.Ytnhakcgkhhficaa.udp
/-
  Chapter 11 (udp): the document's Ports that holds a list of places: who stands where, and what is taken, by a walk of each text. Conditions: none but those typed.
-/
namespace Go.Proofs.Ytnhakcgkhhficaa.udp
set_option linter.unusedVariables false
set_option linter.unusedSimpArgs false
open Go.ChangeShapes Go.WideShapes Go.ChangeAt Go.RowKit Go.IntWalk Go.Lib
def Bd.ds (x : Bd) : List Value := [.int .i64 x.i, .int .i64 x.p, .int .u32 x.a, .int .u32 x.e, .int .i64 x.f]
def dcs : List Bd → List Value
  | [] => []
  | x :: r => x.ds ++ dcs r
theorem dcs_len : ∀ L : List Bd, (dcs L).length = L.length * 5
  | [] => rfl
  | x :: r => by simp [dcs, Bd.ds, dcs_len r]; omega
theorem dcs_app : ∀ L K : List Bd, dcs (L ++ K) = dcs L ++ dcs K
  | [], K => rfl
  | x :: r, K => by simp [dcs, dcs_app r K]
theorem dcs_get : ∀ (L : List Bd) (i t : Nat), i < L.length → t < 5 → (dcs L)[i * 5 + t]? = ((gt L i).ds)[t]?
  | x :: r, 0, t, _, ht => by
    simp only [dcs, gt, List.getD_cons_zero, Nat.zero_mul, Nat.zero_add]
    rw [List.getElem?_append_left (by simp [Bd.ds]; omega)]
  | x :: r, i + 1, t, hi, ht => by
    simp only [dcs, gt, List.getD_cons_succ]
    rw [List.getElem?_append_right (by simp [Bd.ds]; omega)]
    have h := dcs_get r i t (by simpa using hi) ht
    simp only [gt] at h
    rw [← h]
    congr 1
    simp [Bd.ds]; omega
/-- The places of L lie at A. -/
def Pls (w : World) (A : Option Addr) (L : List Bd) : Prop :=
  0 < L.length → ∃ b off, A = some ⟨b, off, none⟩ ∧ b < w.heap.size ∧ ∀ i, i < L.length → w.cell? ⟨b, off + i * 5, none⟩ = some (.int .i64 (gt L i).i) ∧ w.cell? ⟨b, off + i * 5 + 1, none⟩ = some (.int .i64 (gt L i).p) ∧ w.cell? ⟨b, off + i * 5 + 2, none⟩ = some (.int .u32 (gt L i).a) ∧ w.cell? ⟨b, off + i * 5 + 3, none⟩ = some (.int .u32 (gt L i).e) ∧ w.cell? ⟨b, off + i * 5 + 4, none⟩ = some (.int .i64 (gt L i).f)
theorem Pls.only_nil {w w' : World} {A : Option Addr} {L : List Bd} (h : Pls w A L) (o : Only [] w w') : Pls w' A L := fun h0 => by
  obtain ⟨b, off, e, hb, hc⟩ := h h0
  refine ⟨b, off, e, Nat.lt_of_lt_of_le hb o.size, fun i hi => ?_⟩
  obtain ⟨h1, h2, h3, h4, h5⟩ := hc i hi
  exact ⟨o.keep h1, o.keep h2, o.keep h3, o.keep h4, o.keep h5⟩
/-- Ports in block g, of which the row v holds L. -/
def PE (w : World) (g : Nat) (v : Value) (L : List Bd) : Prop := Ob w g 60 #[v] ∧ w.ownsRow 0 110 5 v L.length (dcs L)
theorem PE.form {w : World} {g : Nat} {v : Value} {L : List Bd} (h : PE w g v L) : ∃ A c, v = .slice A L.length c ∧ Pls w A L := by
  obtain ⟨ho, hv⟩ := h
  rcases hv.2 with ⟨hv0, h0⟩ | ⟨b, cap, cur, hv1, hb1, hh, hc1, hc2, hs, ht⟩
  · exact ⟨none, 0, by rw [hv0, h0], fun h => absurd h (by omega)⟩
  · refine ⟨some ⟨b, 0, none⟩, cap, hv1, fun _ => ⟨b, 0, rfl, ?_, fun i hi => ?_⟩⟩
    · exact (hv.lt b (by rw [hv1]; rfl)).2
    · have hc := fun t (ht : t < 5) => hv.cells (g := b) (by rw [hv1]; rfl) (i * 5 + t)
      have key : ∀ t (ht : t < 5) u, ((gt L i).ds)[t]? = some u → w.cell? ⟨b, 0 + i * 5 + t, none⟩ = some u := fun t ht u hu => by
        have h9 := hc t ht u (by rw [dcs_get L i t hi ht]; exact hu)
        rw [addr_plus] at h9
        rw [show 0 + i * 5 + t = 0 + (i * 5 + t) from by omega]
        exact h9
      have k0 := key 0 (by omega) _ rfl
      exact ⟨k0, key 1 (by omega) _ rfl, key 2 (by omega) _ rfl, key 3 (by omega) _ rfl, key 4 (by omega) _ rfl⟩
/-- It stays where neither its block nor its row's is written. -/
theorem PE.only {w w' : World} {g : Nat} {v : Value} {L : List Bd} {S : List Nat} (h : PE w g v L) (o : Only S w w') (h1 : g ∉ S) (h2 : ∀ b, v.ownBlock = some b → b ∉ S) : PE w' g v L := by
  obtain ⟨ho, hv⟩ := h
  refine ⟨ho.only o h1, ⟨hv.1, ?_⟩⟩
  rcases hv.2 with h | ⟨b, cap, cur, hv1, hb1, hh, r⟩
  · exact .inl h
  · refine .inr ⟨b, cap, cur, hv1, hb1, ?_, r⟩
    rw [o.block b (by
      rcases Nat.lt_or_ge b w.heap.size with h | h
      · exact h
      · rw [Array.getElem?_eq_none h] at hh; cases hh) (h2 b (by rw [hv1]; rfl))]
    exact hh
theorem PE.only_nil {w w' : World} {g : Nat} {v : Value} {L : List Bd} (h : PE w g v L) (o : Only [] w w') : PE w' g v L := h.only o (by simp) (by simp)
set_option maxHeartbeats 1000000 in
theorem spotD (w : World) (g : Nat) (v : Value) (L : List Bd) (id : Int) (h : PE w g v L) (hn : L.length ≤ 64) : Calls Try.prog 69 #[.pointer (some ⟨g, 0, none⟩), .int .i64 id] w fun x w' => x = .returned (.int .i64 (spot L id)) ∧ Only [] w w' := by
  obtain ⟨A, c, rfl, hb⟩ := h.form
  have HO := hid h.1
  have HB := hid hb
  have HS : Hid (∀ r, _ → r = spot L id) := hid (spot_of L id)
  generalize hz : spot L id = z at *
  clear h hb hz
  generalize hln : L.length = n at *
  have HL := hid hln; clear hln
  go_enter Try.func69, Try.ntmps69
  go_wp2
  go_loopw [5] (fun i wr => ∃ k : Nat, k ≤ n ∧ i = .int .i64 k ∧ Hid (∀ i, i < k → (gt L i).i ≠ id) ∧ Hid (Only [] w wr)) (fun i _ => n - (RowKit.intOf i).toNat)
  case atStart => exact ⟨0, by omega, rfl, hid (fun i hi => absurd hi (by omega)), hid (Only.refl _ _)⟩
  case round =>
    obtain ⟨k, hk, rfl, HN, HW⟩ := hrel
    have c0 := (HO.out.only HW.out (by simp)).cell 0
    by_cases hlt : k < n
    · obtain ⟨b, off, rfl, hb, hc⟩ := (HB.out.only_nil HW.out) (by rw [HL.out]; omega)
      obtain ⟨q0, q1, q2, q3, q4⟩ := hc k (by rw [HL.out]; exact hlt)
      clear hc
      by_cases he : (gt L k).i = id
      · have hE := HS.out k (.inr ⟨k, hlt, rfl, he, HN.out⟩)
        have HE := hid hE; clear hE
        have heb : ((gt L k).i == id) = true := by simpa using he
        generalize (gt L k).i = zi at *
        have HE2 := hid he; clear he
        go_wp2
        go_ret
        exact ⟨rInt HE.out, HW.out⟩
      · have heb : ((gt L k).i == id) = false := by simpa using he
        have HN2 : Hid (∀ i, i < k + 1 → (gt L i).i ≠ id) := hid (fun i hi => by
          rcases Nat.lt_or_ge i k with h1 | h1
          · exact HN.out i h1
          · obtain rfl : i = k := by omega
            exact he)
        generalize (gt L k).i = zi at q0 heb he
        go_wp2
        go_roundw
        case rel => exact ⟨k + 1, by omega, by go_num, HN2, HW⟩
        case measure => simp [RowKit.intOf]; omega
    · obtain rfl : k = n := by omega
      have HE := hid (HS.out (-1) (.inl ⟨rfl, HN.out⟩))
      go_wp2
      go_ret
      exact ⟨rInt HE.out, HW.out⟩
set_option maxHeartbeats 1000000 in
theorem takenD (w : World) (g : Nat) (v : Value) (L : List Bd) (a p : Int) (h : PE w g v L) (hn : L.length ≤ 64) : Calls Try.prog 70 #[.pointer (some ⟨g, 0, none⟩), .int .u32 a, .int .i64 p] w fun x w' => x = .returned (.bool (tkn L a p)) ∧ Only [] w w' := by
  obtain ⟨A, c, rfl, hb⟩ := h.form
  have HO := hid h.1
  have HB := hid hb
  have HT : Hid (∀ q : Int, _ → decide (0 ≤ q) = tkn L a p) := hid (tkn_of L a p)
  generalize hz : tkn L a p = r at *
  clear h hb hz
  generalize hln : L.length = n at *
  have HL := hid hln; clear hln
  go_enter Try.func70, Try.ntmps70
  go_wp2
  go_loopw [7] (fun i wr => ∃ k : Nat, k ≤ n ∧ i = .int .i64 k ∧ Hid (∀ i, i < k → inWay (fun k => (gt L k).a) (fun k => (gt L k).p) p a i = false) ∧ Hid (Only [] w wr)) (fun i _ => n - (RowKit.intOf i).toNat)
  case atStart => exact ⟨0, by omega, rfl, hid (fun i hi => absurd hi (by omega)), hid (Only.refl _ _)⟩
  case round =>
    obtain ⟨k, hk, rfl, HN, HW⟩ := hrel
    have c0 := (HO.out.only HW.out (by simp)).cell 0
    by_cases hlt : k < n
    · obtain ⟨b, off, rfl, hb, hc⟩ := (HB.out.only_nil HW.out) (by rw [HL.out]; omega)
      obtain ⟨q0, q1, q2, q3, q4⟩ := hc k (by rw [HL.out]; exact hlt)
      clear hc
      have HY : Hid (inWay (fun k => (gt L k).a) (fun k => (gt L k).p) p a k = true → r = true) := hid (fun h => by
        have e := HT.out k (.inr ⟨k, hlt, rfl, h, HN.out⟩)
        rw [← e]; simp)
      have HN2 : Hid (inWay (fun k => (gt L k).a) (fun k => (gt L k).p) p a k = false → ∀ i, i < k + 1 → inWay (fun k => (gt L k).a) (fun k => (gt L k).p) p a i = false) := hid (fun h i hi => by
          rcases Nat.lt_or_ge i k with h1 | h1
          · exact HN.out i h1
          · obtain rfl : i = k := by omega
            exact h)
      have HV : Hid (inWay (fun k => (gt L k).a) (fun k => (gt L k).p) p a k = decide ((gt L k).p = p ∧ ((gt L k).a = a ∨ (gt L k).a = 0 ∨ a = 0))) := hid rfl
      generalize inWay (fun k => (gt L k).a) (fun k => (gt L k).p) p a k = iw at *
      generalize (gt L k).i = zi at *
      generalize (gt L k).p = zp at *
      generalize (gt L k).a = za at *
      generalize (gt L k).e = ze at *
      generalize (gt L k).f = zf at *
      by_cases h1 : zp = p
      · have b1 : (zp == p) = true := by simpa using h1
        by_cases h2 : za = a ∨ za = 0 ∨ a = 0
        · have HE := hid (HY.out (by rw [HV.out]; simp [h1, h2]))
          clear HV HY HN2
          have H1 := hid h1; clear h1
          by_cases h3 : za = a
          · have b3 : (za == a) = true := by simpa using h3
            have H3 := hid h3; clear h3 h2
            go_wp2
            go_ret
            exact ⟨rBool HE.out.symm, by repeat (first | exact HW.out | refine Only.alloc ?_ _)⟩
          · have b3 : (za == a) = false := by simpa using h3
            by_cases h4 : za = 0
            · have b4 : (za == 0) = true := by simpa using h4
              have H4 := hid h4; clear h4 h2 h3
              go_wp2
              go_ret
              exact ⟨rBool HE.out.symm, by repeat (first | exact HW.out | refine Only.alloc ?_ _)⟩
            · have b4 : (za == 0) = false := by simpa using h4
              have b5 : (a == 0) = true := by rcases h2 with h | h | h; exact absurd h h3; exact absurd h h4; simpa using h
              clear h4 h2 h3
              go_wp2
              go_ret
              exact ⟨rBool HE.out.symm, by repeat (first | exact HW.out | refine Only.alloc ?_ _)⟩
        · have HM := hid (HN2.out (by rw [HV.out]; simp [h2]))
          have b3 : (za == a) = false := by simpa using (fun h => h2 (.inl h))
          have b4 : (za == 0) = false := by simpa using (fun h => h2 (.inr (.inl h)))
          have b5 : (a == 0) = false := by simpa using (fun h => h2 (.inr (.inr h)))
          clear HV HY HN2 h2
          have H1 := hid h1; clear h1
          go_wp2
          go_roundw
          case rel => exact ⟨k + 1, by omega, by go_num, HM, hid (by repeat (first | exact HW.out | refine Only.alloc ?_ _))⟩
          case measure => simp [RowKit.intOf]; omega
      · have HM := hid (HN2.out (by rw [HV.out]; simp [h1]))
        have b1 : (zp == p) = false := by simpa using h1
        clear HV HY HN2
        go_wp2
        go_roundw
        case rel => exact ⟨k + 1, by omega, by go_num, HM, hid (by repeat (first | exact HW.out | refine Only.alloc ?_ _))⟩
        case measure => simp [RowKit.intOf]; omega
    · obtain rfl : k = n := by omega
      have HE : Hid (r = false) := hid (by rw [← HT.out (-1) (.inl ⟨rfl, HN.out⟩)]; rfl)
      go_wp2
      go_ret
      exact ⟨rBool HE.out.symm, HW.out⟩
end Go.Proofs.Ytnhakcgkhhficaa.udp
/-
  Chapter 11 (udp): Bind, of a Ports that holds any list of bindings, by a walk of the text. Conditions: none but those typed.
-/
namespace Go.Proofs.Ytnhakcgkhhficaa.udp
set_option linter.unusedVariables false
set_option linter.unusedSimpArgs false
open Go.ChangeShapes Go.WideShapes Go.ChangeAt Go.RowKit Go.IntWalk Go.Lib
theorem bndInfo : ∃ i, Try.prog.info? 74 = some i ∧ i.zero = some (.agg #[.int .i64 0, .int .u32 0, .int .i64 0, .int .u32 0, .int .i64 0]) ∧ i.size = 5 ∧ i.bytes = 40 := info_parts (by kernel_rfl)
theorem own_neP {w : World} {g base n : Nat} {v : Value} {xs : List Value} {cs : Array Value} (ho : Ob w g 56 cs) (h : w.ownsRow base 74 5 v n xs) : v.ownBlock ≠ some g := by
  intro e
  rcases h.2 with ⟨hv, _⟩ | ⟨g', cap, cur, hv, _, hh, _⟩
  · rw [hv] at e; cases e
  · rw [hv] at e
    have : g' = g := by simpa [Value.ownBlock] using e
    subst this
    unfold Ob at ho
    rw [hh] at ho
    injection ho with h2; injection h2 with _ h3
    exact absurd h3 (by decide)
theorem Only.wide {S : List Nat} {w w' : World} (o : Only [] w w') : Only S w w' := ⟨o.os, o.tape, o.output, o.size, fun k hk _ => o.block k hk (by simp)⟩
/-- What follows: the Ports holds L', in a row of its own that was its own before or is new; nothing else is written. -/
def PNext (w : World) (g : Nat) (v : Value) (L' : List Bd) (w' : World) : Prop := ∃ v', PV w' g v' L' ∧ (∀ b, v'.ownBlock = some b → v.ownBlock = some b ∨ w.heap.size ≤ b) ∧ Only (g :: v.ownBlock.toList) w w'
theorem PNext.same {w w' : World} {g : Nat} {v : Value} {L : List Bd} (h : PV w g v L) (o : Only [] w w') : PNext w g v L w' := ⟨v, h.only_nil o, fun b hb => .inl hb, Only.wide o⟩
/-- What Bind answers, and what is bound then. -/
def bindE (L : List Bd) (id a p : Int) : Int := if id < 0 ∨ p < 1 ∨ 65535 < p then 1 else if 0 ≤ spot L id then 8 else if 64 ≤ L.length then 6 else if tkn L a p then 22 else 0
def bindS (L : List Bd) (id a p : Int) : List Bd := if bindE L id a p = 0 then L ++ [⟨id, a, p, 0, 0⟩] else L
set_option maxRecDepth 100000 in
set_option maxHeartbeats 2000000 in
theorem bindL (w : World) (g : Nat) (v : Value) (L : List Bd) (id a p : Int) (h : PV w g v L) (hn : L.length ≤ 64) : Calls Try.prog 15 #[.pointer (some ⟨g, 0, none⟩), .int .i64 id, .int .u32 a, .int .i64 p] w fun x w' => x = .returned (.int .i64 (bindE L id a p)) ∧ PNext w g v (bindS L id a p) w' := by
  have H := hid h; clear h
  have Q : Hid (Only [] w w) := hid (Only.refl _ _)
  by_cases h1 : id < 0
  · have HE : Hid (bindE L id a p = 1) := hid (by unfold bindE; rw [if_pos (.inl h1)])
    have HS : Hid (bindS L id a p = L) := hid (by unfold bindS; rw [HE.out]; rfl)
    go_enter Try.func15, Try.ntmps15
    go_wp2
    go_ret
    exact ⟨rInt HE.out.symm, by rw [HS.out]; exact PNext.same H.out Q.out⟩
  · by_cases h2 : p < 1 ∨ 65535 < p
    · have HE : Hid (bindE L id a p = 1) := hid (by unfold bindE; rw [if_pos (.inr h2)])
      have HS : Hid (bindS L id a p = L) := hid (by unfold bindS; rw [HE.out]; rfl)
      have HP := hid (port0 w p 1 h2)
      clear h2
      go_enter Try.func15, Try.ntmps15
      go_wp2_with fail
      refine HP.out.mono ?_
      rintro x w' ⟨rfl, rfl⟩
      go_wp2
      go_ret
      exact ⟨rInt HE.out.symm, by rw [HS.out]; exact PNext.same H.out Q.out⟩
    · have h3 : ¬ (id < 0 ∨ p < 1 ∨ 65535 < p) := by omega
      have HP := hid (port1 w p 1 (by omega) (by omega))
      have HR := hid (roomL w g v L id H.out hn)
      by_cases hr : roomE L id = 0
      · have HE : Hid (bindE L id a p = if tkn L a p then 22 else 0) := hid (by
          unfold roomE at hr
          unfold bindE
          rw [if_neg h3]
          by_cases q1 : 0 ≤ spot L id
          · rw [if_pos q1] at hr; omega
          · rw [if_neg q1] at hr ⊢
            by_cases q2 : 64 ≤ L.length
            · rw [if_pos q2] at hr; omega
            · rw [if_neg q2])
        rw [hr] at HR
        have hl : L.length < 64 := by
          unfold roomE at hr
          split at hr
          · omega
          · split at hr
            · omega
            · omega
        clear hr h3 h2
        cases ht : tkn L a p with
        | true =>
          have HE : Hid (bindE L id a p = 22) := hid (by rw [HE.out, ht]; rfl)
          have HS : Hid (bindS L id a p = L) := hid (by unfold bindS; rw [HE.out]; rfl)
          have HT := hid ht; clear ht
          go_enter Try.func15, Try.ntmps15
          go_wp2_with fail
          refine HP.out.mono ?_
          rintro x w' ⟨rfl, rfl⟩
          go_wp2_with fail
          refine HR.out.mono ?_
          rintro x w1 ⟨rfl, o1⟩
          have Q := hid (Q.out.trans o1); clear o1
          have HK := hid (takenL w1 g v L a p (H.out.only_nil Q.out) hn)
          rw [HT.out] at HK
          go_wp2_with fail
          refine HK.out.mono ?_
          rintro x w2 ⟨rfl, o2⟩
          have Q := hid (Q.out.trans o2); clear o2
          go_wp2
          go_ret
          exact ⟨rInt HE.out.symm, by rw [HS.out]; exact PNext.same H.out Q.out⟩
        | false =>
          have HE : Hid (bindE L id a p = 0) := hid (by rw [HE.out, ht]; rfl)
          have HS : Hid (bindS L id a p = L ++ [⟨id, a, p, 0, 0⟩]) := hid (by unfold bindS; rw [HE.out]; rfl)
          have HT := hid ht; clear ht
          go_enter Try.func15, Try.ntmps15
          go_wp2_with fail
          refine HP.out.mono ?_
          rintro x w' ⟨rfl, rfl⟩
          go_wp2_with fail
          refine HR.out.mono ?_
          rintro x w1 ⟨rfl, o1⟩
          have Q := hid (Q.out.trans o1); clear o1
          have HK := hid (takenL w1 g v L a p (H.out.only_nil Q.out) hn)
          rw [HT.out] at HK
          go_wp2_with fail
          refine HK.out.mono ?_
          rintro x w2 ⟨rfl, o2⟩
          have Q := hid (Q.out.trans o2); clear o2
          have H := hid (H.out.only_nil Q.out)
          clear HP HR HK HT
          obtain ⟨ho, hv⟩ := H.out
          have c0 : w2.cell? ⟨g, 0, none⟩ = some v := ho.cell 0
          have OB := hid (ho.alloc (.cells #[.int .i64 id, .int .u32 a, .int .i64 (p), .int .u32 0, .int .i64 0] 74)); have hlt := ho.lt
          have HV := hid (hv.alloc (.cells #[.int .i64 id, .int .u32 a, .int .i64 (p), .int .u32 0, .int .i64 0] 74))
          have QA : Hid (Only (g :: v.ownBlock.toList) w (w2.alloc (.cells #[.int .i64 id, .int .u32 a, .int .i64 (p), .int .u32 0, .int .i64 0] 74))) := hid ((Only.wide Q.out).alloc _)
          have HSZ : Hid (w.heap.size ≤ w2.heap.size) := hid Q.out.size
          obtain ⟨i, hi, hz, hsi, hby⟩ := bndInfo
          have HN : Hid (∀ t u, (Bd.cs ⟨id, a, p, 0, 0⟩)[t]? = some u → (w2.alloc (.cells #[.int .i64 id, .int .u32 a, .int .i64 (p), .int .u32 0, .int .i64 0] 74)).cell? ((⟨w2.heap.size, 0, none⟩ : Addr).add t) = some u) := hid (fun t u hu => by
            have hoo := Ob.new w2 74 #[.int .i64 id, .int .u32 a, .int .i64 (p), .int .u32 0, .int .i64 0]
            rw [addr_plus, Nat.zero_add, hoo.cell t]
            simpa [Bd.cs] using hu)
          clear ho hv
          go_wp2_with (at_builtin; refine wpList_append_own_at _ rfl (.tmp 35) (.tmp 40) 54 rfl 0 74 i _ 5 40 Try.underlying54 hi hz hsi hby rfl (by decide) v L.length (bcs L) rfl ?ca ⟨w2.heap.size, 0, none⟩ 1 1 (Bd.cs ⟨id, a, p, 0, 0⟩) rfl rfl ?cb ?cc ?cd ?ce ?cf ?_)
          case ca => exact HV.out
          case cb => exact HN.out
          case cc => intro u hu; simp [Bd.cs] at hu; rcases hu with rfl | rfl | rfl | rfl | rfl <;> rfl
          case cd => unfold maxLen; omega
          case ce => omega
          case cf => omega
          intro v4 w4 hv4 hg4 _ how
          have hne4 := own_neP OB.out HV.out
          have OB := hid (OB.out.grown hg4 (fun e => hne4 e))
          have QA := hid (QA.out.of_grown hg4 (by intro k hk; left; simp [hk]))
          have hv5 : w4.ownsRow 0 74 5 v4 (L.length + 1) (bcs (L ++ [⟨id, a, p, 0, 0⟩])) := by rw [bcs_app]; simpa [bcs] using hv4
          have hne5 := own_neP OB.out hv5
          have HV5 := hid hv5
          have HOW : Hid (∀ b, v4.ownBlock = some b → v.ownBlock = some b ∨ w.heap.size ≤ b) := hid (by
            intro b hb
            have hs := HSZ.out
            rcases how with h | h
            · exact .inl (by rw [← h]; exact hb)
            · rw [h] at hb
              injection hb with hb
              right
              omega)
          obtain ⟨g5, cap5, ev5⟩ : ∃ g5 cap5, v4 = .slice (some ⟨g5, 0, none⟩) (L.length + 1) cap5 := by
            rcases hv5.2 with ⟨_, h0⟩ | ⟨g5, cap5, cur, hv, _⟩
            · omega
            · exact ⟨_, _, hv⟩
          subst ev5
          have c0 := OB.out.cell 0; have f0 := OB.out.frozen 0
          clear hv4 hg4 hv5 HN HV how
          generalize hLn : L.length = n at *
          have HLn := hid hLn; clear hLn
          go_wp2
          go_ret
          refine ⟨rInt HE.out.symm, ?_⟩
          rw [HS.out]
          refine ⟨_, ⟨OB.out.set 0 _, ?_⟩, HOW.out, QA.out.setCell (p := ⟨g, 0, none⟩) (.inl (by simp)) _⟩
          rw [show (L ++ [(⟨id, a, p, 0, 0⟩ : Bd)]).length = n + 1 from by rw [List.length_append, HLn.out]; rfl]
          refine ⟨HV5.out.1, ?_⟩
          rcases HV5.out.2 with h | ⟨g6, cap6, cur, hv6, hb6, hh6, r⟩
          · exact .inl h
          · refine .inr ⟨g6, cap6, cur, hv6, hb6, ?_, r⟩
            have hg6 : g6 ≠ g := by
              intro e; subst e
              rw [hv6] at hne5
              exact hne5 rfl
            rw [heap_setCell_other _ _ g6 _ (by simpa using hg6)]
            exact hh6
      · have HE : Hid (bindE L id a p = roomE L id) := hid (by
          unfold roomE at hr ⊢
          unfold bindE
          rw [if_neg h3]
          by_cases q1 : 0 ≤ spot L id
          · rw [if_pos q1, if_pos q1]
          · rw [if_neg q1] at hr ⊢
            rw [if_neg q1]
            by_cases q2 : 64 ≤ L.length
            · rw [if_pos q2, if_pos q2]
            · rw [if_neg q2] at hr; omega)
        have HS : Hid (bindS L id a p = L) := hid (by unfold bindS; rw [HE.out, if_neg hr])
        clear h3 h2
        generalize roomE L id = q at *
        go_enter Try.func15, Try.ntmps15
        go_wp2_with fail
        refine HP.out.mono ?_
        rintro x w' ⟨rfl, rfl⟩
        go_wp2_with fail
        refine HR.out.mono ?_
        rintro x w1 ⟨rfl, o1⟩
        have Q := hid (Q.out.trans o1); clear o1
        go_wp2
        go_ret
        exact ⟨rInt HE.out.symm, by rw [HS.out]; exact PNext.same H.out Q.out⟩
end Go.Proofs.Ytnhakcgkhhficaa.udp
/-
  Chapter 11 (udp): Pick, of a Ports that holds any list of bindings, by a walk of the text. Conditions: none but those typed.
-/
namespace Go.Proofs.Ytnhakcgkhhficaa.udp
set_option linter.unusedVariables false
set_option linter.unusedSimpArgs false
open Go.ChangeShapes Go.WideShapes Go.ChangeAt Go.RowKit Go.IntWalk Go.Lib
/-- The k-th port from f on. -/
def prq (f : Int) (k : Nat) : Int := 49152 + (f + k) % 16384
/-- The first port from f on that is not taken: which one of the next n from the k-th on. -/
def ffr (L : List Bd) (a f : Int) : Nat → Nat → Option Nat
  | 0, _ => none
  | n + 1, k => if tkn L a (prq f k) then ffr L a f n (k + 1) else some k
/-- What Pick answers, and what is bound then. -/
def pickR (L : List Bd) (id a d : Int) : Int × Int × List Bd :=
  if id < 0 then (0, 1, L) else if roomE L id ≠ 0 then (0, roomE L id, L) else
    match ffr L a (max d 0 % 16384) 16384 0 with
    | some k => (prq (max d 0 % 16384) k, 0, L ++ [⟨id, a, prq (max d 0 % 16384) k, 0, 0⟩])
    | none => (0, 22, L)
set_option maxRecDepth 100000 in
set_option maxHeartbeats 2000000 in
theorem pickPL (w : World) (g : Nat) (v : Value) (L : List Bd) (id a : Int) (d f : Int) (hd : 0 ≤ d) (hf : d % 16384 = f) (h : PV w g v L) (hn : L.length < 64) (hid0 : ¬ id < 0) (hr : roomE L id = 0) :
    Calls Try.prog 13 #[.pointer (some ⟨g, 0, none⟩), .int .i64 id, .int .u32 a, .int .i64 d] w fun x w' => x = .returned (.tuple #[.int .i64 (pickR L id a d).1, .int .i64 (pickR L id a d).2.1]) ∧ PNext w g v (pickR L id a d).2.2 w' := by
  have H := hid h; clear h
  have Q0 : Hid (Only [] w w) := hid (Only.refl _ _)
  have HRm := hid (roomL w g v L id H.out (by omega))
  rw [hr] at HRm
  have hf0 : 0 ≤ f ∧ f < 16384 := by omega
  have hmx : max d 0 = d := by omega
  have hdm : d.tmod 16384 = d % 16384 := Int.tmod_eq_emod_of_nonneg hd
  have HX : Hid (∀ y, ffr L a f 16384 0 = y → pickR L id a d = match y with
    | some k => (prq f k, 0, L ++ [⟨id, a, prq f k, 0, 0⟩])
    | none => (0, 22, L)) := hid (fun y hy => by
      subst hy
      unfold pickR
      rw [if_neg hid0, if_neg (by omega), hmx, hf])
  generalize pickR L id a d = rr at *
  clear hr
  go_enter Try.func13, Try.ntmps13
  go_wp2_with fail
  refine HRm.out.mono ?_
  rintro x w1 ⟨rfl, o1⟩
  have H := hid (H.out.only_nil o1); have HB1 := hid o1
  clear o1 HRm
  go_wp2
  go_loopw [29] (fun i wr => ∃ j : Nat, j ≤ 16384 ∧ i = .int .i64 j ∧ Hid (ffr L a f (16384 - j) j = ffr L a f 16384 0) ∧ Hid (Only [] w1 wr)) (fun i _ => 16384 - (RowKit.intOf i).toNat)
  case atStart => exact ⟨0, by omega, rfl, hid rfl, hid (Only.refl _ _)⟩
  case round =>
  obtain ⟨j, hj, rfl, HF, HQ⟩ := hrel
  have HS := hid (H.out.only_nil HQ.out)
  by_cases hj16 : (j : Int) < 16384
  · have hjm : (f + (j : Int)).tmod 16384 = (f + (j : Int)) % 16384 := Int.tmod_eq_emod_of_nonneg (by omega)
    have HFn : Hid (ffr L a f (16384 - j) j = if tkn L a (prq f j) then ffr L a f (16384 - (j + 1)) (j + 1) else some j) := hid (by
      rw [show 16384 - j = (16384 - (j + 1)) + 1 from by omega]
      rfl)
    have hT := takenL wr g v L a (prq f j) HS.out (by omega)
    cases ht : tkn L a (prq f j) with
    | true =>
      rw [ht] at hT
      have HF2 : Hid (ffr L a f (16384 - (j + 1)) (j + 1) = ffr L a f 16384 0) := hid (by
        have e := HFn.out
        rw [ht, if_pos rfl] at e
        rw [← e, HF.out])
      clear ht
      simp only [prq] at hT
      have HT := hid hT; clear hT HFn
      go_wp2_with fail
      refine HT.out.mono ?_
      rintro x w3 ⟨rfl, o3⟩
      have HQ := hid (HQ.out.trans o3)
      clear o3
      go_wp2
      go_roundw
      case rel => exact ⟨j + 1, by omega, by go_num, HF2, HQ⟩
      case measure => simp [RowKit.intOf]; omega
    | false =>
      rw [ht] at hT
      have HE := hid (HX.out (some j) (by
        have e := HFn.out
        rw [ht, if_neg (by decide)] at e
        rw [← HF.out, e]))
      have HP : Hid (prq f j = 49152 + (f + (j : Int)) % 16384) := hid (by unfold prq; rfl)
      clear ht
      simp only [prq] at hT
      have HT := hid hT; clear hT HFn HF HX
      go_wp2_with fail
      refine HT.out.mono ?_
      rintro x w3 ⟨rfl, o3⟩
      have H := hid (HS.out.only_nil o3); have Q := hid ((HB1.out.trans HQ.out).trans o3)
      clear o3 HT HQ HS HB1
      obtain ⟨ho, hv⟩ := H.out
      have c0 : w3.cell? ⟨g, 0, none⟩ = some v := ho.cell 0
      have OB := hid (ho.alloc (.cells #[.int .i64 id, .int .u32 a, .int .i64 (49152 + (f + (j : Int)) % 16384), .int .u32 0, .int .i64 0] 74)); have hlt := ho.lt
      have HV := hid (hv.alloc (.cells #[.int .i64 id, .int .u32 a, .int .i64 (49152 + (f + (j : Int)) % 16384), .int .u32 0, .int .i64 0] 74))
      have QA : Hid (Only (g :: v.ownBlock.toList) w (w3.alloc (.cells #[.int .i64 id, .int .u32 a, .int .i64 (49152 + (f + (j : Int)) % 16384), .int .u32 0, .int .i64 0] 74))) := hid ((Only.wide Q.out).alloc _)
      have HSZ : Hid (w.heap.size ≤ w3.heap.size) := hid Q.out.size
      obtain ⟨i, hi, hz, hsi, hby⟩ := bndInfo
      have HN : Hid (∀ t u, (Bd.cs ⟨id, a, 49152 + (f + (j : Int)) % 16384, 0, 0⟩)[t]? = some u → (w3.alloc (.cells #[.int .i64 id, .int .u32 a, .int .i64 (49152 + (f + (j : Int)) % 16384), .int .u32 0, .int .i64 0] 74)).cell? ((⟨w3.heap.size, 0, none⟩ : Addr).add t) = some u) := hid (fun t u hu => by
        have hoo := Ob.new w3 74 #[.int .i64 id, .int .u32 a, .int .i64 (49152 + (f + (j : Int)) % 16384), .int .u32 0, .int .i64 0]
        rw [addr_plus, Nat.zero_add, hoo.cell t]
        simpa [Bd.cs] using hu)
      clear ho hv
      go_wp2_with (at_builtin; refine wpList_append_own_at _ rfl (.tmp 46) (.tmp 51) 54 rfl 0 74 i _ 5 40 Try.underlying54 hi hz hsi hby rfl (by decide) v L.length (bcs L) rfl ?ca ⟨w3.heap.size, 0, none⟩ 1 1 (Bd.cs ⟨id, a, 49152 + (f + (j : Int)) % 16384, 0, 0⟩) rfl rfl ?cb ?cc ?cd ?ce ?cf ?_)
      case ca => exact HV.out
      case cb => exact HN.out
      case cc => intro u hu; simp [Bd.cs] at hu; rcases hu with rfl | rfl | rfl | rfl | rfl <;> rfl
      case cd => unfold maxLen; omega
      case ce => omega
      case cf => omega
      intro v4 w4 hv4 hg4 _ how
      have hne4 := own_neP OB.out HV.out
      have OB := hid (OB.out.grown hg4 (fun e => hne4 e))
      have QA := hid (QA.out.of_grown hg4 (by intro k hk; left; simp [hk]))
      have hv5 : w4.ownsRow 0 74 5 v4 (L.length + 1) (bcs (L ++ [⟨id, a, 49152 + (f + (j : Int)) % 16384, 0, 0⟩])) := by rw [bcs_app]; simpa [bcs] using hv4
      have hne5 := own_neP OB.out hv5
      have HV5 := hid hv5
      have HOW : Hid (∀ b, v4.ownBlock = some b → v.ownBlock = some b ∨ w.heap.size ≤ b) := hid (by
        intro b hb
        have hs := HSZ.out
        rcases how with h | h
        · exact .inl (by rw [← h]; exact hb)
        · rw [h] at hb
          injection hb with hb
          right
          omega)
      obtain ⟨g5, cap5, ev5⟩ : ∃ g5 cap5, v4 = .slice (some ⟨g5, 0, none⟩) (L.length + 1) cap5 := by
        rcases hv5.2 with ⟨_, h0⟩ | ⟨g5, cap5, cur, hv, _⟩
        · omega
        · exact ⟨_, _, hv⟩
      subst ev5
      have c0 := OB.out.cell 0; have f0 := OB.out.frozen 0
      clear hv4 hg4 hv5 HN HV how
      generalize hLn : L.length = n at *
      have HLn := hid hLn; clear hLn
      go_wp2
      go_ret2
      refine ⟨by rw [HE.out]; show _ = Ending.returned (.tuple #[.int .i64 (prq f j), .int .i64 0]); rw [HP.out]; rfl, ?_⟩
      rw [HE.out]
      show PNext w g v (L ++ [⟨id, a, prq f j, 0, 0⟩]) _
      rw [HP.out]
      refine ⟨_, ⟨OB.out.set 0 _, ?_⟩, HOW.out, QA.out.setCell (p := ⟨g, 0, none⟩) (.inl (by simp)) _⟩
      rw [show (L ++ [(⟨id, a, 49152 + (f + (j : Int)) % 16384, 0, 0⟩ : Bd)]).length = n + 1 from by rw [List.length_append, HLn.out]; rfl]
      refine ⟨HV5.out.1, ?_⟩
      rcases HV5.out.2 with h | ⟨g6, cap6, cur, hv6, hb6, hh6, r⟩
      · exact .inl h
      · refine .inr ⟨g6, cap6, cur, hv6, hb6, ?_, r⟩
        have hg6 : g6 ≠ g := by
          intro e; subst e
          rw [hv6] at hne5
          exact hne5 rfl
        rw [heap_setCell_other _ _ g6 _ (by simpa using hg6)]
        exact hh6
  · obtain rfl : j = 16384 := by omega
    have HE := hid (HX.out none (by rw [← HF.out]; rfl))
    have Q := hid (HB1.out.trans HQ.out)
    clear HX HF hj16
    go_wp2
    go_ret2
    exact ⟨by rw [HE.out]; rfl, by rw [HE.out]; exact ⟨v, HS.out, fun b hb => .inl hb, Only.wide Q.out⟩⟩
set_option maxRecDepth 100000 in
set_option maxHeartbeats 2000000 in
theorem pickNL (w : World) (g : Nat) (v : Value) (L : List Bd) (id a : Int) (d : Int) (hd : d < 0) (h : PV w g v L) (hn : L.length < 64) (hid0 : ¬ id < 0) (hr : roomE L id = 0) :
    Calls Try.prog 13 #[.pointer (some ⟨g, 0, none⟩), .int .i64 id, .int .u32 a, .int .i64 d] w fun x w' => x = .returned (.tuple #[.int .i64 (pickR L id a d).1, .int .i64 (pickR L id a d).2.1]) ∧ PNext w g v (pickR L id a d).2.2 w' := by
  have H := hid h; clear h
  have Q0 : Hid (Only [] w w) := hid (Only.refl _ _)
  have HRm := hid (roomL w g v L id H.out (by omega))
  rw [hr] at HRm
  have hmx : max d 0 = 0 := by omega
  have HX : Hid (∀ y, ffr L a 0 16384 0 = y → pickR L id a d = match y with
    | some k => (prq 0 k, 0, L ++ [⟨id, a, prq 0 k, 0, 0⟩])
    | none => (0, 22, L)) := hid (fun y hy => by
      subst hy
      unfold pickR
      rw [if_neg hid0, if_neg (by omega), hmx, show ((0 : Int) % 16384) = 0 from rfl])
  generalize pickR L id a d = rr at *
  clear hr
  go_enter Try.func13, Try.ntmps13
  go_wp2_with fail
  refine HRm.out.mono ?_
  rintro x w1 ⟨rfl, o1⟩
  have H := hid (H.out.only_nil o1); have HB1 := hid o1
  clear o1 HRm
  go_wp2
  go_loopw [29] (fun i wr => ∃ j : Nat, j ≤ 16384 ∧ i = .int .i64 j ∧ Hid (ffr L a 0 (16384 - j) j = ffr L a 0 16384 0) ∧ Hid (Only [] w1 wr)) (fun i _ => 16384 - (RowKit.intOf i).toNat)
  case atStart => exact ⟨0, by omega, rfl, hid rfl, hid (Only.refl _ _)⟩
  case round =>
  obtain ⟨j, hj, rfl, HF, HQ⟩ := hrel
  have HS := hid (H.out.only_nil HQ.out)
  by_cases hj16 : (j : Int) < 16384
  · have hjm : (j : Int).tmod 16384 = (j : Int) % 16384 := Int.tmod_eq_emod_of_nonneg (by omega)
    have HFn : Hid (ffr L a 0 (16384 - j) j = if tkn L a (prq 0 j) then ffr L a 0 (16384 - (j + 1)) (j + 1) else some j) := hid (by
      rw [show 16384 - j = (16384 - (j + 1)) + 1 from by omega]
      rfl)
    have hT := takenL wr g v L a (prq 0 j) HS.out (by omega)
    cases ht : tkn L a (prq 0 j) with
    | true =>
      rw [ht] at hT
      have HF2 : Hid (ffr L a 0 (16384 - (j + 1)) (j + 1) = ffr L a 0 16384 0) := hid (by
        have e := HFn.out
        rw [ht, if_pos rfl] at e
        rw [← e, HF.out])
      clear ht
      simp only [prq, Int.zero_add] at hT
      have HT := hid hT; clear hT HFn
      go_wp2_with fail
      refine HT.out.mono ?_
      rintro x w3 ⟨rfl, o3⟩
      have HQ := hid (HQ.out.trans o3)
      clear o3
      go_wp2
      go_roundw
      case rel => exact ⟨j + 1, by omega, by go_num, HF2, HQ⟩
      case measure => simp [RowKit.intOf]; omega
    | false =>
      rw [ht] at hT
      have HE := hid (HX.out (some j) (by
        have e := HFn.out
        rw [ht, if_neg (by decide)] at e
        rw [← HF.out, e]))
      have HP : Hid (prq 0 j = 49152 + (j : Int) % 16384) := hid (by unfold prq; rw [Int.zero_add])
      clear ht
      simp only [prq, Int.zero_add] at hT
      have HT := hid hT; clear hT HFn HF HX
      go_wp2_with fail
      refine HT.out.mono ?_
      rintro x w3 ⟨rfl, o3⟩
      have H := hid (HS.out.only_nil o3); have Q := hid ((HB1.out.trans HQ.out).trans o3)
      clear o3 HT HQ HS HB1
      obtain ⟨ho, hv⟩ := H.out
      have c0 : w3.cell? ⟨g, 0, none⟩ = some v := ho.cell 0
      have OB := hid (ho.alloc (.cells #[.int .i64 id, .int .u32 a, .int .i64 (49152 + (j : Int) % 16384), .int .u32 0, .int .i64 0] 74)); have hlt := ho.lt
      have HV := hid (hv.alloc (.cells #[.int .i64 id, .int .u32 a, .int .i64 (49152 + (j : Int) % 16384), .int .u32 0, .int .i64 0] 74))
      have QA : Hid (Only (g :: v.ownBlock.toList) w (w3.alloc (.cells #[.int .i64 id, .int .u32 a, .int .i64 (49152 + (j : Int) % 16384), .int .u32 0, .int .i64 0] 74))) := hid ((Only.wide Q.out).alloc _)
      have HSZ : Hid (w.heap.size ≤ w3.heap.size) := hid Q.out.size
      obtain ⟨i, hi, hz, hsi, hby⟩ := bndInfo
      have HN : Hid (∀ t u, (Bd.cs ⟨id, a, 49152 + (j : Int) % 16384, 0, 0⟩)[t]? = some u → (w3.alloc (.cells #[.int .i64 id, .int .u32 a, .int .i64 (49152 + (j : Int) % 16384), .int .u32 0, .int .i64 0] 74)).cell? ((⟨w3.heap.size, 0, none⟩ : Addr).add t) = some u) := hid (fun t u hu => by
        have hoo := Ob.new w3 74 #[.int .i64 id, .int .u32 a, .int .i64 (49152 + (j : Int) % 16384), .int .u32 0, .int .i64 0]
        rw [addr_plus, Nat.zero_add, hoo.cell t]
        simpa [Bd.cs] using hu)
      clear ho hv
      go_wp2_with (at_builtin; refine wpList_append_own_at _ rfl (.tmp 46) (.tmp 51) 54 rfl 0 74 i _ 5 40 Try.underlying54 hi hz hsi hby rfl (by decide) v L.length (bcs L) rfl ?ca ⟨w3.heap.size, 0, none⟩ 1 1 (Bd.cs ⟨id, a, 49152 + (j : Int) % 16384, 0, 0⟩) rfl rfl ?cb ?cc ?cd ?ce ?cf ?_)
      case ca => exact HV.out
      case cb => exact HN.out
      case cc => intro u hu; simp [Bd.cs] at hu; rcases hu with rfl | rfl | rfl | rfl | rfl <;> rfl
      case cd => unfold maxLen; omega
      case ce => omega
      case cf => omega
      intro v4 w4 hv4 hg4 _ how
      have hne4 := own_neP OB.out HV.out
      have OB := hid (OB.out.grown hg4 (fun e => hne4 e))
      have QA := hid (QA.out.of_grown hg4 (by intro k hk; left; simp [hk]))
      have hv5 : w4.ownsRow 0 74 5 v4 (L.length + 1) (bcs (L ++ [⟨id, a, 49152 + (j : Int) % 16384, 0, 0⟩])) := by rw [bcs_app]; simpa [bcs] using hv4
      have hne5 := own_neP OB.out hv5
      have HV5 := hid hv5
      have HOW : Hid (∀ b, v4.ownBlock = some b → v.ownBlock = some b ∨ w.heap.size ≤ b) := hid (by
        intro b hb
        have hs := HSZ.out
        rcases how with h | h
        · exact .inl (by rw [← h]; exact hb)
        · rw [h] at hb
          injection hb with hb
          right
          omega)
      obtain ⟨g5, cap5, ev5⟩ : ∃ g5 cap5, v4 = .slice (some ⟨g5, 0, none⟩) (L.length + 1) cap5 := by
        rcases hv5.2 with ⟨_, h0⟩ | ⟨g5, cap5, cur, hv, _⟩
        · omega
        · exact ⟨_, _, hv⟩
      subst ev5
      have c0 := OB.out.cell 0; have f0 := OB.out.frozen 0
      clear hv4 hg4 hv5 HN HV how
      generalize hLn : L.length = n at *
      have HLn := hid hLn; clear hLn
      go_wp2
      go_ret2
      refine ⟨by rw [HE.out]; show _ = Ending.returned (.tuple #[.int .i64 (prq 0 j), .int .i64 0]); rw [HP.out]; rfl, ?_⟩
      rw [HE.out]
      show PNext w g v (L ++ [⟨id, a, prq 0 j, 0, 0⟩]) _
      rw [HP.out]
      refine ⟨_, ⟨OB.out.set 0 _, ?_⟩, HOW.out, QA.out.setCell (p := ⟨g, 0, none⟩) (.inl (by simp)) _⟩
      rw [show (L ++ [(⟨id, a, 49152 + (j : Int) % 16384, 0, 0⟩ : Bd)]).length = n + 1 from by rw [List.length_append, HLn.out]; rfl]
      refine ⟨HV5.out.1, ?_⟩
      rcases HV5.out.2 with h | ⟨g6, cap6, cur, hv6, hb6, hh6, r⟩
      · exact .inl h
      · refine .inr ⟨g6, cap6, cur, hv6, hb6, ?_, r⟩
        have hg6 : g6 ≠ g := by
          intro e; subst e
          rw [hv6] at hne5
          exact hne5 rfl
        rw [heap_setCell_other _ _ g6 _ (by simpa using hg6)]
        exact hh6
  · obtain rfl : j = 16384 := by omega
    have HE := hid (HX.out none (by rw [← HF.out]; rfl))
    have Q := hid (HB1.out.trans HQ.out)
    clear HX HF hj16
    go_wp2
    go_ret2
    exact ⟨by rw [HE.out]; rfl, by rw [HE.out]; exact ⟨v, HS.out, fun b hb => .inl hb, Only.wide Q.out⟩⟩
end Go.Proofs.Ytnhakcgkhhficaa.udp
/-
  Chapter 11 (udp): Bind and Pick of the document's Ports that holds any list of places, by a walk of each text. Conditions: none but those typed.
-/
namespace Go.Proofs.Ytnhakcgkhhficaa.udp
set_option linter.unusedVariables false
set_option linter.unusedSimpArgs false
open Go.ChangeShapes Go.WideShapes Go.ChangeAt Go.RowKit Go.IntWalk Go.Lib
theorem plcInfo : ∃ i, Try.prog.info? 110 = some i ∧ i.zero = some (.agg #[.int .i64 0, .int .i64 0, .int .u32 0, .int .u32 0, .int .i64 0]) ∧ i.size = 5 ∧ i.bytes = 32 := info_parts (by kernel_rfl)
theorem own_neD {w : World} {g base n : Nat} {v : Value} {xs : List Value} {cs : Array Value} (ho : Ob w g 60 cs) (h : w.ownsRow base 110 5 v n xs) : v.ownBlock ≠ some g := by
  intro e
  rcases h.2 with ⟨hv, _⟩ | ⟨g', cap, cur, hv, _, hh, _⟩
  · rw [hv] at e; cases e
  · rw [hv] at e
    have : g' = g := by simpa [Value.ownBlock] using e
    subst this
    unfold Ob at ho
    rw [hh] at ho
    injection ho with h2; injection h2 with _ h3
    exact absurd h3 (by decide)
/-- What follows: the Ports holds L', in a row of its own that was its own before or is new; nothing else is written. -/
def DNext (w : World) (g : Nat) (v : Value) (L' : List Bd) (w' : World) : Prop := ∃ v', PE w' g v' L' ∧ (∀ b, v'.ownBlock = some b → v.ownBlock = some b ∨ w.heap.size ≤ b) ∧ Only (g :: v.ownBlock.toList) w w'
theorem DNext.same {w w' : World} {g : Nat} {v : Value} {L : List Bd} (h : PE w g v L) (o : Only [] w w') : DNext w g v L w' := ⟨v, h.only_nil o, fun b hb => .inl hb, Only.wide o⟩
set_option maxRecDepth 100000 in
set_option maxHeartbeats 2000000 in
theorem bindD (w : World) (g : Nat) (v : Value) (L : List Bd) (id a p : Int) (h : PE w g v L) (hn : L.length ≤ 64) : Calls Try.prog 45 #[.pointer (some ⟨g, 0, none⟩), .int .i64 id, .int .u32 a, .int .i64 p] w fun x w' => x = .returned (.int .i64 (bindE L id a p)) ∧ DNext w g v (bindS L id a p) w' := by
  have H := hid h
  obtain ⟨A, c, rfl, hb⟩ := h.form
  have HO := hid h.1
  clear h hb
  have Q : Hid (Only [] w w) := hid (Only.refl _ _)
  by_cases h1 : id < 0
  · have HE : Hid (bindE L id a p = 1) := hid (by unfold bindE; rw [if_pos (.inl h1)])
    have HS : Hid (bindS L id a p = L) := hid (by unfold bindS; rw [HE.out]; rfl)
    go_enter Try.func45, Try.ntmps45
    go_wp2
    go_ret
    exact ⟨rInt HE.out.symm, by rw [HS.out]; exact DNext.same H.out Q.out⟩
  · by_cases h2 : p < 1
    · have HE : Hid (bindE L id a p = 1) := hid (by unfold bindE; rw [if_pos (.inr (.inl h2))])
      have HS : Hid (bindS L id a p = L) := hid (by unfold bindS; rw [HE.out]; rfl)
      go_enter Try.func45, Try.ntmps45
      go_wp2
      go_ret
      exact ⟨rInt HE.out.symm, by rw [HS.out]; exact DNext.same H.out Q.out⟩
    · by_cases h2' : 65535 < p
      · have HE : Hid (bindE L id a p = 1) := hid (by unfold bindE; rw [if_pos (.inr (.inr h2'))])
        have HS : Hid (bindS L id a p = L) := hid (by unfold bindS; rw [HE.out]; rfl)
        go_enter Try.func45, Try.ntmps45
        go_wp2
        go_ret
        exact ⟨rInt HE.out.symm, by rw [HS.out]; exact DNext.same H.out Q.out⟩
      · have h3 : ¬ (id < 0 ∨ p < 1 ∨ 65535 < p) := by omega
        have HP := hid (spotD w g _ L id H.out hn)
        by_cases q1 : 0 ≤ spot L id
        · have HE : Hid (bindE L id a p = 8) := hid (by unfold bindE; rw [if_neg h3, if_pos q1])
          have HS : Hid (bindS L id a p = L) := hid (by unfold bindS; rw [HE.out]; rfl)
          clear h3
          generalize spot L id = sp at *
          go_enter Try.func45, Try.ntmps45
          go_wp2_with fail
          refine HP.out.mono ?_
          rintro x w1 ⟨rfl, o1⟩
          have c0 := (HO.out.only o1 (by simp)).cell 0
          have Q := hid (Q.out.trans o1); clear o1
          go_wp2
          go_ret
          exact ⟨rInt HE.out.symm, by rw [HS.out]; exact DNext.same H.out Q.out⟩
        · by_cases q2 : 64 ≤ L.length
          · have HE : Hid (bindE L id a p = 6) := hid (by unfold bindE; rw [if_neg h3, if_neg q1, if_pos q2])
            have HS : Hid (bindS L id a p = L) := hid (by unfold bindS; rw [HE.out]; rfl)
            clear h3
            have q3 : (64 : Int) ≤ L.length := by omega
            generalize spot L id = sp at *
            go_enter Try.func45, Try.ntmps45
            go_wp2_with fail
            refine HP.out.mono ?_
            rintro x w1 ⟨rfl, o1⟩
            have c0 := (HO.out.only o1 (by simp)).cell 0
            have Q := hid (Q.out.trans o1); clear o1
            go_wp2
            go_ret
            exact ⟨rInt HE.out.symm, by rw [HS.out]; exact DNext.same H.out Q.out⟩
          · have HK : Hid (∀ W, Only [] w W → Calls Try.prog 70 #[.pointer (some ⟨g, 0, none⟩), .int .u32 a, .int .i64 p] W fun x w' => x = .returned (.bool (tkn L a p)) ∧ Only [] W w') := hid (fun W o => takenD W g _ L a p (H.out.only_nil o) hn)
            have q3 : ¬ (64 : Int) ≤ L.length := by omega
            cases ht : tkn L a p with
            | true =>
              rw [ht] at HK
              have HE : Hid (bindE L id a p = 22) := hid (by unfold bindE; rw [if_neg h3, if_neg q1, if_neg q2, ht]; rfl)
              have HS : Hid (bindS L id a p = L) := hid (by unfold bindS; rw [HE.out]; rfl)
              clear h3 ht
              generalize spot L id = sp at *
              go_enter Try.func45, Try.ntmps45
              go_wp2_with fail
              refine HP.out.mono ?_
              rintro x w1 ⟨rfl, o1⟩
              have c0 := (HO.out.only o1 (by simp)).cell 0
              have Q := hid (Q.out.trans o1); clear o1
              go_wp2_with fail
              refine (HK.out w1 Q.out).mono ?_
              rintro x w2 ⟨rfl, o2⟩
              have Q := hid (Q.out.trans o2); clear o2
              go_wp2
              go_ret
              exact ⟨rInt HE.out.symm, by rw [HS.out]; exact DNext.same H.out Q.out⟩
            | false =>
              rw [ht] at HK
              have HE : Hid (bindE L id a p = 0) := hid (by unfold bindE; rw [if_neg h3, if_neg q1, if_neg q2, ht]; rfl)
              have HS : Hid (bindS L id a p = L ++ [⟨id, a, p, 0, 0⟩]) := hid (by unfold bindS; rw [HE.out]; rfl)
              clear h3 ht
              generalize spot L id = sp at *
              have hl : L.length < 64 := by omega
              go_enter Try.func45, Try.ntmps45
              go_wp2_with fail
              refine HP.out.mono ?_
              rintro x w1 ⟨rfl, o1⟩
              have c0 := (HO.out.only o1 (by simp)).cell 0
              have Q := hid (Q.out.trans o1); clear o1
              go_wp2_with fail
              refine (HK.out w1 Q.out).mono ?_
              rintro x w2 ⟨rfl, o2⟩
              have Q := hid (Q.out.trans o2); clear o2
              have H := hid (H.out.only_nil Q.out)
              clear HP HK HO
              generalize hvv : Value.slice A L.length c = v at *
              have HVV := hid hvv; clear hvv
              obtain ⟨ho, hv⟩ := H.out
              have c0 : w2.cell? ⟨g, 0, none⟩ = some v := ho.cell 0
              have OB := hid (ho.alloc (.cells #[.int .i64 id, .int .i64 (p), .int .u32 a, .int .u32 0, .int .i64 0] 110)); have hlt := ho.lt
              have HV := hid (hv.alloc (.cells #[.int .i64 id, .int .i64 (p), .int .u32 a, .int .u32 0, .int .i64 0] 110))
              have QA : Hid (Only (g :: v.ownBlock.toList) w (w2.alloc (.cells #[.int .i64 id, .int .i64 (p), .int .u32 a, .int .u32 0, .int .i64 0] 110))) := hid ((Only.wide Q.out).alloc _)
              have HSZ : Hid (w.heap.size ≤ w2.heap.size) := hid Q.out.size
              obtain ⟨i, hi, hz, hsi, hby⟩ := plcInfo
              have HN : Hid (∀ t u, (Bd.ds ⟨id, a, p, 0, 0⟩)[t]? = some u → (w2.alloc (.cells #[.int .i64 id, .int .i64 (p), .int .u32 a, .int .u32 0, .int .i64 0] 110)).cell? ((⟨w2.heap.size, 0, none⟩ : Addr).add t) = some u) := hid (fun t u hu => by
                have hoo := Ob.new w2 110 #[.int .i64 id, .int .i64 (p), .int .u32 a, .int .u32 0, .int .i64 0]
                rw [addr_plus, Nat.zero_add, hoo.cell t]
                simpa [Bd.ds] using hu)
              clear ho hv
              go_wp2_with (at_builtin; refine wpList_append_own_at _ rfl (.tmp 41) (.tmp 46) 58 rfl 0 110 i _ 5 32 Try.underlying58 hi hz hsi hby rfl (by decide) v L.length (dcs L) rfl ?ca ⟨w2.heap.size, 0, none⟩ 1 1 (Bd.ds ⟨id, a, p, 0, 0⟩) rfl rfl ?cb ?cc ?cd ?ce ?cf ?_)
              case ca => exact HV.out
              case cb => exact HN.out
              case cc => intro u hu; simp [Bd.ds] at hu; rcases hu with rfl | rfl | rfl | rfl | rfl <;> rfl
              case cd => unfold maxLen; omega
              case ce => omega
              case cf => omega
              intro v4 w4 hv4 hg4 _ how
              have hne4 := own_neD OB.out HV.out
              have OB := hid (OB.out.grown hg4 (fun e => hne4 e))
              have QA := hid (QA.out.of_grown hg4 (by intro k hk; left; simp [hk]))
              have hv5 : w4.ownsRow 0 110 5 v4 (L.length + 1) (dcs (L ++ [⟨id, a, p, 0, 0⟩])) := by rw [dcs_app]; simpa [dcs] using hv4
              have hne5 := own_neD OB.out hv5
              have HV5 := hid hv5
              have HOW : Hid (∀ b, v4.ownBlock = some b → v.ownBlock = some b ∨ w.heap.size ≤ b) := hid (by
                intro b hb
                have hs := HSZ.out
                rcases how with h | h
                · exact .inl (by rw [← h]; exact hb)
                · rw [h] at hb
                  injection hb with hb
                  right
                  omega)
              obtain ⟨g5, cap5, ev5⟩ : ∃ g5 cap5, v4 = .slice (some ⟨g5, 0, none⟩) (L.length + 1) cap5 := by
                rcases hv5.2 with ⟨_, h0⟩ | ⟨g5, cap5, cur, hv, _⟩
                · omega
                · exact ⟨_, _, hv⟩
              subst ev5
              have c0 := OB.out.cell 0; have f0 := OB.out.frozen 0
              clear hv4 hg4 hv5 HN HV how
              generalize hLn : L.length = n at *
              have HLn := hid hLn; clear hLn
              go_wp2
              go_ret
              refine ⟨rInt HE.out.symm, ?_⟩
              rw [HS.out, show (Value.slice A L.length c) = v from by rw [HLn.out]; exact HVV.out]
              refine ⟨_, ⟨OB.out.set 0 _, ?_⟩, HOW.out, QA.out.setCell (p := ⟨g, 0, none⟩) (.inl (by simp)) _⟩
              rw [show (L ++ [(⟨id, a, p, 0, 0⟩ : Bd)]).length = n + 1 from by rw [List.length_append, HLn.out]; rfl]
              refine ⟨HV5.out.1, ?_⟩
              rcases HV5.out.2 with h | ⟨g6, cap6, cur, hv6, hb6, hh6, r⟩
              · exact .inl h
              · refine .inr ⟨g6, cap6, cur, hv6, hb6, ?_, r⟩
                have hg6 : g6 ≠ g := by
                  intro e; subst e
                  rw [hv6] at hne5
                  exact hne5 rfl
                rw [heap_setCell_other _ _ g6 _ (by simpa using hg6)]
                exact hh6
end Go.Proofs.Ytnhakcgkhhficaa.udp
/-
  Chapter 11 (udp): Connect of the document's Ports that holds any list of places, by a walk of the text. Conditions: none but those typed.
-/
namespace Go.Proofs.Ytnhakcgkhhficaa.udp
set_option linter.unusedVariables false
set_option linter.unusedSimpArgs false
open Go.ChangeShapes Go.WideShapes Go.ChangeAt Go.RowKit Go.IntWalk Go.Lib
/-- The k-th binding hears one alone. -/
def peer (L : List Bd) (k : Nat) (a p : Int) : List Bd := L.set k ⟨(gt L k).i, (gt L k).a, (gt L k).p, a, p⟩
theorem peer_len (L : List Bd) (k : Nat) (a p : Int) : (peer L k a p).length = L.length := by simp [peer]
theorem bcs_peer (a p : Int) : ∀ (L : List Bd) (k : Nat), k < L.length → bcs (peer L k a p) = ((bcs L).set (k * 5 + 3) (.int .u32 a)).set (k * 5 + 4) (.int .i64 p)
  | x :: r, 0, _ => by simp [peer, bcs, Bd.cs, gt]
  | x :: r, k + 1, h => by
    have ih := bcs_peer a p r k (by simpa using h)
    simp only [peer, gt, List.getD_cons_succ, List.set_cons_succ, bcs] at ih ⊢
    rw [ih, show (k + 1) * 5 + 3 = (k * 5 + 3) + 5 from by omega, show (k + 1) * 5 + 4 = (k * 5 + 4) + 5 from by omega]
    simp [Bd.cs]
theorem dcs_peer (a p : Int) : ∀ (L : List Bd) (k : Nat), k < L.length → dcs (peer L k a p) = ((dcs L).set (k * 5 + 3) (.int .u32 a)).set (k * 5 + 4) (.int .i64 p)
  | x :: r, 0, _ => by simp [peer, dcs, Bd.ds, gt]
  | x :: r, k + 1, h => by
    have ih := dcs_peer a p r k (by simpa using h)
    simp only [peer, gt, List.getD_cons_succ, List.set_cons_succ, dcs] at ih ⊢
    rw [ih, show (k + 1) * 5 + 3 = (k * 5 + 3) + 5 from by omega, show (k + 1) * 5 + 4 = (k * 5 + 4) + 5 from by omega]
    simp [Bd.ds]
theorem spot_cases (L : List Bd) (id : Int) : spot L id = -1 ∨ ∃ k : Nat, k < L.length ∧ spot L id = k := by
  unfold spot
  cases h : L.findIdx? (fun x => x.i == id) with
  | none => exact .inl rfl
  | some k =>
    right
    rw [List.findIdx?_eq_some_iff_getElem] at h
    obtain ⟨hk, _⟩ := h
    exact ⟨k, hk, rfl⟩
/-- What Connect answers, and what is bound then. -/
def connE (L : List Bd) (id p : Int) : Int := if spot L id < 0 then 7 else if p < 0 ∨ 65535 < p then 1 else 0
def connS (L : List Bd) (id a p : Int) : List Bd := if connE L id p = 0 then peer L (spot L id).toNat a p else L
set_option maxRecDepth 100000 in
set_option maxHeartbeats 2000000 in
theorem connD (w : World) (g : Nat) (v : Value) (L : List Bd) (id a p : Int) (h : PE w g v L) (hn : L.length ≤ 64) : Calls Try.prog 47 #[.pointer (some ⟨g, 0, none⟩), .int .i64 id, .int .u32 a, .int .i64 p] w fun x w' => x = .returned (.int .i64 (connE L id p)) ∧ DNext w g v (connS L id a p) w' := by
  have H := hid h
  have hne := own_neD h.1 h.2
  obtain ⟨A, c, rfl, hb⟩ := h.form
  have HO := hid h.1
  have HB := hid hb
  clear h hb
  have Q : Hid (Only [] w w) := hid (Only.refl _ _)
  have HP := hid (spotD w g _ L id H.out hn)
  rcases spot_cases L id with hk | ⟨k, hkn, hk⟩
  · have HE : Hid (connE L id p = 7) := hid (by unfold connE; rw [hk]; rfl)
    have HS : Hid (connS L id a p = L) := hid (by unfold connS; rw [HE.out]; rfl)
    rw [hk] at HP
    go_enter Try.func47, Try.ntmps47
    go_wp2_with fail
    refine HP.out.mono ?_
    rintro x w1 ⟨rfl, o1⟩
    have c0 := (HO.out.only o1 (by simp)).cell 0
    have Q := hid (Q.out.trans o1); clear o1
    go_wp2
    go_ret
    exact ⟨rInt HE.out.symm, by rw [HS.out]; exact DNext.same H.out Q.out⟩
  · by_cases h1 : p < 0
    · have HE : Hid (connE L id p = 1) := hid (by unfold connE; rw [hk, if_neg (by omega), if_pos (.inl h1)])
      have HS : Hid (connS L id a p = L) := hid (by unfold connS; rw [HE.out]; rfl)
      rw [hk] at HP
      go_enter Try.func47, Try.ntmps47
      go_wp2_with fail
      refine HP.out.mono ?_
      rintro x w1 ⟨rfl, o1⟩
      have c0 := (HO.out.only o1 (by simp)).cell 0
      have Q := hid (Q.out.trans o1); clear o1
      go_wp2
      go_ret
      exact ⟨rInt HE.out.symm, by rw [HS.out]; exact DNext.same H.out Q.out⟩
    · by_cases h2 : 65535 < p
      · have HE : Hid (connE L id p = 1) := hid (by unfold connE; rw [hk, if_neg (by omega), if_pos (.inr h2)])
        have HS : Hid (connS L id a p = L) := hid (by unfold connS; rw [HE.out]; rfl)
        rw [hk] at HP
        go_enter Try.func47, Try.ntmps47
        go_wp2_with fail
        refine HP.out.mono ?_
        rintro x w1 ⟨rfl, o1⟩
        have c0 := (HO.out.only o1 (by simp)).cell 0
        have Q := hid (Q.out.trans o1); clear o1
        go_wp2
        go_ret
        exact ⟨rInt HE.out.symm, by rw [HS.out]; exact DNext.same H.out Q.out⟩
      · have HE : Hid (connE L id p = 0) := hid (by unfold connE; rw [hk, if_neg (by omega), if_neg (by omega)])
        have HS : Hid (connS L id a p = peer L k a p) := hid (by unfold connS; rw [HE.out, if_pos rfl, hk]; rfl)
        rw [hk] at HP
        have hkl : (k : Int) < L.length := by omega
        go_enter Try.func47, Try.ntmps47
        go_wp2_with fail
        refine HP.out.mono ?_
        rintro x w1 ⟨rfl, o1⟩
        have H1 := hid (H.out.only_nil o1)
        have c0 := H1.out.1.cell 0
        have hlt := H1.out.1.lt
        have Q := hid (Q.out.trans o1)
        obtain ⟨b, off, rfl, hb, hc⟩ := (HB.out.only_nil o1) (by omega)
        clear o1
        obtain rfl : off = 0 := by
          rcases H1.out.2.2 with ⟨h', _⟩ | ⟨g', cap', cur, h', _⟩
          · simp at h'
          · injection h' with h'; injection h' with h'; injection h' with _ h'
        obtain ⟨q0, q1, q2, q3, q4⟩ := hc k hkn
        rw [Nat.zero_add] at q0 q1 q2 q3 q4
        have z3 := World.ownsRow.frozenAt H1.out.2 (k * 5 + 3)
        have z4 := World.ownsRow.frozenAt H1.out.2 (k * 5 + 4)
        have gb : g ≠ b := fun e => hne (by simp [Value.ownBlock, e])
        clear hc
        go_wp2
        go_ret
        have s1 := (World.ownsRow.stored H1.out.2 (k * 5 + 3) (.int .u32 a)).1
        have s2 := (World.ownsRow.stored s1 (k * 5 + 4) (.int .i64 p)).1
        refine ⟨rInt HE.out.symm, ?_⟩
        rw [HS.out]
        refine ⟨_, ⟨(H1.out.1.far (p := ⟨b, k * 5 + 3, none⟩) gb _).far (p := ⟨b, k * 5 + 4, none⟩) gb _, ?_⟩, fun b hb => .inl hb, ((Only.wide Q.out).setCell (p := ⟨b, k * 5 + 3, none⟩) (.inl (by simp [Value.ownBlock])) _).setCell (p := ⟨b, k * 5 + 4, none⟩) (.inl (by simp [Value.ownBlock])) _⟩
        rw [peer_len, dcs_peer a p L k hkn]
        exact s2
end Go.Proofs.Ytnhakcgkhhficaa.udp
/-
  Chapter 11 (udp): how well a place fits a datagram, by a walk of the document's text. Conditions: none but those typed.
-/
namespace Go.Proofs.Ytnhakcgkhhficaa.udp
set_option linter.unusedVariables false
set_option linter.unusedSimpArgs false
open Go.ChangeShapes Go.WideShapes Go.ChangeAt Go.RowKit Go.IntWalk Go.Lib
/-- How well a binding fits a datagram; -1: not. -/
def worthZ (zp za ze zf fr fp to tp : Int) : Int := if zp ≠ tp ∨ (za ≠ to ∧ za ≠ 0) then -1 else if zf ≠ 0 ∧ (ze ≠ fr ∨ zf ≠ fp) then -1 else (if zf ≠ 0 then 2 else 0) + (if za = to ∧ za ≠ 0 then 1 else 0)
set_option maxHeartbeats 2000000 in
theorem worthD (w : World) (zi zp za ze zf fr fp to tp : Int) (A : Option Addr) (n c : Nat) : Calls Try.prog 71 #[.agg #[.int .i64 zi, .int .i64 zp, .int .u32 za, .int .u32 ze, .int .i64 zf], .agg #[.int .u32 fr, .int .i64 fp, .int .u32 to, .int .i64 tp, .slice A n c]] w fun x w' => x = .returned (.int .i64 (worthZ zp za ze zf fr fp to tp)) ∧ Only [] w w' := by
  have O : Hid (Only [] w ((w.alloc (.cells #[.int .i64 zi, .int .i64 zp, .int .u32 za, .int .u32 ze, .int .i64 zf] 110)).alloc (.cells #[.int .u32 fr, .int .i64 fp, .int .u32 to, .int .i64 tp, .slice A n c] 32))) := hid (((Only.refl [] w).alloc _).alloc _)
  go_enter Try.func71, Try.ntmps71
  by_cases hp : zp = tp
  · by_cases ha : za = to
    · by_cases hn : za = 0
      · by_cases hf : zf = 0
        · have HE : Hid (worthZ zp za ze zf fr fp to tp = 0) := hid (by
            unfold worthZ
            (repeat' split) <;> omega)
          have bp : (zp == tp) = true := by simpa using hp
          have cp : (zp != tp) = false := by simpa using hp
          have ba : (za == to) = true := by simpa using ha
          have ca : (za != to) = false := by simpa using ha
          have bn : (za == 0) = true := by simpa using hn
          have cn : (za != 0) = false := by simpa using hn
          have bf : (zf == 0) = true := by simpa using hf
          have cf : (zf != 0) = false := by simpa using hf
          clear hp ha hn hf
          go_wp2
          go_ret
          exact ⟨rInt HE.out.symm, O.out⟩
        · by_cases he : ze = fr
          · by_cases hq : zf = fp
            · have HE : Hid (worthZ zp za ze zf fr fp to tp = 2) := hid (by
                unfold worthZ
                (repeat' split) <;> omega)
              have bp : (zp == tp) = true := by simpa using hp
              have cp : (zp != tp) = false := by simpa using hp
              have ba : (za == to) = true := by simpa using ha
              have ca : (za != to) = false := by simpa using ha
              have bn : (za == 0) = true := by simpa using hn
              have cn : (za != 0) = false := by simpa using hn
              have bf : (zf == 0) = false := by simpa using hf
              have cf : (zf != 0) = true := by simpa using hf
              have be : (ze == fr) = true := by simpa using he
              have ce : (ze != fr) = false := by simpa using he
              have bq : (zf == fp) = true := by simpa using hq
              have cq : (zf != fp) = false := by simpa using hq
              clear hp ha hn hf he hq
              go_wp2
              go_ret
              exact ⟨rInt HE.out.symm, O.out⟩
            · have HE : Hid (worthZ zp za ze zf fr fp to tp = -1) := hid (by
                unfold worthZ
                (repeat' split) <;> omega)
              have bp : (zp == tp) = true := by simpa using hp
              have cp : (zp != tp) = false := by simpa using hp
              have ba : (za == to) = true := by simpa using ha
              have ca : (za != to) = false := by simpa using ha
              have bn : (za == 0) = true := by simpa using hn
              have cn : (za != 0) = false := by simpa using hn
              have bf : (zf == 0) = false := by simpa using hf
              have cf : (zf != 0) = true := by simpa using hf
              have be : (ze == fr) = true := by simpa using he
              have ce : (ze != fr) = false := by simpa using he
              have bq : (zf == fp) = false := by simpa using hq
              have cq : (zf != fp) = true := by simpa using hq
              clear hp ha hn hf he hq
              go_wp2
              go_ret
              exact ⟨rInt HE.out.symm, O.out⟩
          · have HE : Hid (worthZ zp za ze zf fr fp to tp = -1) := hid (by
              unfold worthZ
              (repeat' split) <;> omega)
            have bp : (zp == tp) = true := by simpa using hp
            have cp : (zp != tp) = false := by simpa using hp
            have ba : (za == to) = true := by simpa using ha
            have ca : (za != to) = false := by simpa using ha
            have bn : (za == 0) = true := by simpa using hn
            have cn : (za != 0) = false := by simpa using hn
            have bf : (zf == 0) = false := by simpa using hf
            have cf : (zf != 0) = true := by simpa using hf
            have be : (ze == fr) = false := by simpa using he
            have ce : (ze != fr) = true := by simpa using he
            clear hp ha hn hf he
            go_wp2
            go_ret
            exact ⟨rInt HE.out.symm, O.out⟩
      · by_cases hf : zf = 0
        · have HE : Hid (worthZ zp za ze zf fr fp to tp = 1) := hid (by
            unfold worthZ
            (repeat' split) <;> omega)
          have bp : (zp == tp) = true := by simpa using hp
          have cp : (zp != tp) = false := by simpa using hp
          have ba : (za == to) = true := by simpa using ha
          have ca : (za != to) = false := by simpa using ha
          have bn : (za == 0) = false := by simpa using hn
          have cn : (za != 0) = true := by simpa using hn
          have bf : (zf == 0) = true := by simpa using hf
          have cf : (zf != 0) = false := by simpa using hf
          clear hp ha hn hf
          go_wp2
          go_ret
          exact ⟨rInt HE.out.symm, O.out⟩
        · by_cases he : ze = fr
          · by_cases hq : zf = fp
            · have HE : Hid (worthZ zp za ze zf fr fp to tp = 3) := hid (by
                unfold worthZ
                (repeat' split) <;> omega)
              have bp : (zp == tp) = true := by simpa using hp
              have cp : (zp != tp) = false := by simpa using hp
              have ba : (za == to) = true := by simpa using ha
              have ca : (za != to) = false := by simpa using ha
              have bn : (za == 0) = false := by simpa using hn
              have cn : (za != 0) = true := by simpa using hn
              have bf : (zf == 0) = false := by simpa using hf
              have cf : (zf != 0) = true := by simpa using hf
              have be : (ze == fr) = true := by simpa using he
              have ce : (ze != fr) = false := by simpa using he
              have bq : (zf == fp) = true := by simpa using hq
              have cq : (zf != fp) = false := by simpa using hq
              clear hp ha hn hf he hq
              go_wp2
              go_ret
              exact ⟨rInt HE.out.symm, O.out⟩
            · have HE : Hid (worthZ zp za ze zf fr fp to tp = -1) := hid (by
                unfold worthZ
                (repeat' split) <;> omega)
              have bp : (zp == tp) = true := by simpa using hp
              have cp : (zp != tp) = false := by simpa using hp
              have ba : (za == to) = true := by simpa using ha
              have ca : (za != to) = false := by simpa using ha
              have bn : (za == 0) = false := by simpa using hn
              have cn : (za != 0) = true := by simpa using hn
              have bf : (zf == 0) = false := by simpa using hf
              have cf : (zf != 0) = true := by simpa using hf
              have be : (ze == fr) = true := by simpa using he
              have ce : (ze != fr) = false := by simpa using he
              have bq : (zf == fp) = false := by simpa using hq
              have cq : (zf != fp) = true := by simpa using hq
              clear hp ha hn hf he hq
              go_wp2
              go_ret
              exact ⟨rInt HE.out.symm, O.out⟩
          · have HE : Hid (worthZ zp za ze zf fr fp to tp = -1) := hid (by
              unfold worthZ
              (repeat' split) <;> omega)
            have bp : (zp == tp) = true := by simpa using hp
            have cp : (zp != tp) = false := by simpa using hp
            have ba : (za == to) = true := by simpa using ha
            have ca : (za != to) = false := by simpa using ha
            have bn : (za == 0) = false := by simpa using hn
            have cn : (za != 0) = true := by simpa using hn
            have bf : (zf == 0) = false := by simpa using hf
            have cf : (zf != 0) = true := by simpa using hf
            have be : (ze == fr) = false := by simpa using he
            have ce : (ze != fr) = true := by simpa using he
            clear hp ha hn hf he
            go_wp2
            go_ret
            exact ⟨rInt HE.out.symm, O.out⟩
    · by_cases hn : za = 0
      · by_cases hf : zf = 0
        · have HE : Hid (worthZ zp za ze zf fr fp to tp = 0) := hid (by
            unfold worthZ
            (repeat' split) <;> omega)
          have bp : (zp == tp) = true := by simpa using hp
          have cp : (zp != tp) = false := by simpa using hp
          have ba : (za == to) = false := by simpa using ha
          have ca : (za != to) = true := by simpa using ha
          have bn : (za == 0) = true := by simpa using hn
          have cn : (za != 0) = false := by simpa using hn
          have bf : (zf == 0) = true := by simpa using hf
          have cf : (zf != 0) = false := by simpa using hf
          clear hp ha hn hf
          go_wp2
          go_ret
          exact ⟨rInt HE.out.symm, O.out⟩
        · by_cases he : ze = fr
          · by_cases hq : zf = fp
            · have HE : Hid (worthZ zp za ze zf fr fp to tp = 2) := hid (by
                unfold worthZ
                (repeat' split) <;> omega)
              have bp : (zp == tp) = true := by simpa using hp
              have cp : (zp != tp) = false := by simpa using hp
              have ba : (za == to) = false := by simpa using ha
              have ca : (za != to) = true := by simpa using ha
              have bn : (za == 0) = true := by simpa using hn
              have cn : (za != 0) = false := by simpa using hn
              have bf : (zf == 0) = false := by simpa using hf
              have cf : (zf != 0) = true := by simpa using hf
              have be : (ze == fr) = true := by simpa using he
              have ce : (ze != fr) = false := by simpa using he
              have bq : (zf == fp) = true := by simpa using hq
              have cq : (zf != fp) = false := by simpa using hq
              clear hp ha hn hf he hq
              go_wp2
              go_ret
              exact ⟨rInt HE.out.symm, O.out⟩
            · have HE : Hid (worthZ zp za ze zf fr fp to tp = -1) := hid (by
                unfold worthZ
                (repeat' split) <;> omega)
              have bp : (zp == tp) = true := by simpa using hp
              have cp : (zp != tp) = false := by simpa using hp
              have ba : (za == to) = false := by simpa using ha
              have ca : (za != to) = true := by simpa using ha
              have bn : (za == 0) = true := by simpa using hn
              have cn : (za != 0) = false := by simpa using hn
              have bf : (zf == 0) = false := by simpa using hf
              have cf : (zf != 0) = true := by simpa using hf
              have be : (ze == fr) = true := by simpa using he
              have ce : (ze != fr) = false := by simpa using he
              have bq : (zf == fp) = false := by simpa using hq
              have cq : (zf != fp) = true := by simpa using hq
              clear hp ha hn hf he hq
              go_wp2
              go_ret
              exact ⟨rInt HE.out.symm, O.out⟩
          · have HE : Hid (worthZ zp za ze zf fr fp to tp = -1) := hid (by
              unfold worthZ
              (repeat' split) <;> omega)
            have bp : (zp == tp) = true := by simpa using hp
            have cp : (zp != tp) = false := by simpa using hp
            have ba : (za == to) = false := by simpa using ha
            have ca : (za != to) = true := by simpa using ha
            have bn : (za == 0) = true := by simpa using hn
            have cn : (za != 0) = false := by simpa using hn
            have bf : (zf == 0) = false := by simpa using hf
            have cf : (zf != 0) = true := by simpa using hf
            have be : (ze == fr) = false := by simpa using he
            have ce : (ze != fr) = true := by simpa using he
            clear hp ha hn hf he
            go_wp2
            go_ret
            exact ⟨rInt HE.out.symm, O.out⟩
      · have HE : Hid (worthZ zp za ze zf fr fp to tp = -1) := hid (by
          unfold worthZ
          (repeat' split) <;> omega)
        have bp : (zp == tp) = true := by simpa using hp
        have cp : (zp != tp) = false := by simpa using hp
        have ba : (za == to) = false := by simpa using ha
        have ca : (za != to) = true := by simpa using ha
        have bn : (za == 0) = false := by simpa using hn
        have cn : (za != 0) = true := by simpa using hn
        clear hp ha hn
        go_wp2
        go_ret
        exact ⟨rInt HE.out.symm, O.out⟩
  · have HE : Hid (worthZ zp za ze zf fr fp to tp = -1) := hid (by
      unfold worthZ
      (repeat' split) <;> omega)
    have bp : (zp == tp) = false := by simpa using hp
    have cp : (zp != tp) = true := by simpa using hp
    clear hp
    go_wp2
    go_ret
    exact ⟨rInt HE.out.symm, O.out⟩
end Go.Proofs.Ytnhakcgkhhficaa.udp
/-
  Chapter 11 (udp): whether a binding is considered for a datagram, by a walk of the text. Conditions: none but those typed.
-/
namespace Go.Proofs.Ytnhakcgkhhficaa.udp
set_option linter.unusedVariables false
set_option linter.unusedSimpArgs false
open Go.ChangeShapes Go.WideShapes Go.ChangeAt Go.RowKit Go.IntWalk Go.Lib
set_option maxHeartbeats 2000000 in
theorem hearsL (w : World) (zi zp za ze zf fr fp to tp : Int) (A : Option Addr) (n c : Nat) : Calls Try.prog 32 #[.agg #[.int .i64 zi, .int .u32 za, .int .i64 zp, .int .u32 ze, .int .i64 zf], .agg #[.int .u32 fr, .int .i64 fp, .int .u32 to, .int .i64 tp, .slice A n c]] w fun x w' => x = .returned (.bool (decide (0 ≤ worthZ zp za ze zf fr fp to tp))) ∧ Only [] w w' := by
  have O : Hid (Only [] w ((w.alloc (.cells #[.int .i64 zi, .int .u32 za, .int .i64 zp, .int .u32 ze, .int .i64 zf] 74)).alloc (.cells #[.int .u32 fr, .int .i64 fp, .int .u32 to, .int .i64 tp, .slice A n c] 32))) := hid (((Only.refl [] w).alloc _).alloc _)
  go_enter Try.func32, Try.ntmps32
  by_cases hp : zp = tp
  · by_cases ha : za = to
    · by_cases hn : za = 0
      · by_cases hf : zf = 0
        · have HE : Hid (decide (0 ≤ worthZ zp za ze zf fr fp to tp) = true) := hid (by
            have e : worthZ zp za ze zf fr fp to tp = 0 := by
              unfold worthZ
              (repeat' split) <;> omega
            rw [e]; rfl)
          have bp : (zp == tp) = true := by simpa using hp
          have cp : (zp != tp) = false := by simpa using hp
          have ba : (za == to) = true := by simpa using ha
          have ca : (za != to) = false := by simpa using ha
          have bn : (za == 0) = true := by simpa using hn
          have cn : (za != 0) = false := by simpa using hn
          have bf : (zf == 0) = true := by simpa using hf
          have cf : (zf != 0) = false := by simpa using hf
          clear hp ha hn hf
          go_wp2
          go_ret
          exact ⟨rBool HE.out.symm, O.out⟩
        · by_cases he : ze = fr
          · by_cases hq : zf = fp
            · have HE : Hid (decide (0 ≤ worthZ zp za ze zf fr fp to tp) = true) := hid (by
                have e : worthZ zp za ze zf fr fp to tp = 2 := by
                  unfold worthZ
                  (repeat' split) <;> omega
                rw [e]; rfl)
              have bp : (zp == tp) = true := by simpa using hp
              have cp : (zp != tp) = false := by simpa using hp
              have ba : (za == to) = true := by simpa using ha
              have ca : (za != to) = false := by simpa using ha
              have bn : (za == 0) = true := by simpa using hn
              have cn : (za != 0) = false := by simpa using hn
              have bf : (zf == 0) = false := by simpa using hf
              have cf : (zf != 0) = true := by simpa using hf
              have be : (ze == fr) = true := by simpa using he
              have ce : (ze != fr) = false := by simpa using he
              have bq : (zf == fp) = true := by simpa using hq
              have cq : (zf != fp) = false := by simpa using hq
              clear hp ha hn hf he hq
              go_wp2
              go_ret
              exact ⟨rBool HE.out.symm, O.out⟩
            · have HE : Hid (decide (0 ≤ worthZ zp za ze zf fr fp to tp) = false) := hid (by
                have e : worthZ zp za ze zf fr fp to tp = -1 := by
                  unfold worthZ
                  (repeat' split) <;> omega
                rw [e]; rfl)
              have bp : (zp == tp) = true := by simpa using hp
              have cp : (zp != tp) = false := by simpa using hp
              have ba : (za == to) = true := by simpa using ha
              have ca : (za != to) = false := by simpa using ha
              have bn : (za == 0) = true := by simpa using hn
              have cn : (za != 0) = false := by simpa using hn
              have bf : (zf == 0) = false := by simpa using hf
              have cf : (zf != 0) = true := by simpa using hf
              have be : (ze == fr) = true := by simpa using he
              have ce : (ze != fr) = false := by simpa using he
              have bq : (zf == fp) = false := by simpa using hq
              have cq : (zf != fp) = true := by simpa using hq
              clear hp ha hn hf he hq
              go_wp2
              go_ret
              exact ⟨rBool HE.out.symm, O.out⟩
          · have HE : Hid (decide (0 ≤ worthZ zp za ze zf fr fp to tp) = false) := hid (by
              have e : worthZ zp za ze zf fr fp to tp = -1 := by
                unfold worthZ
                (repeat' split) <;> omega
              rw [e]; rfl)
            have bp : (zp == tp) = true := by simpa using hp
            have cp : (zp != tp) = false := by simpa using hp
            have ba : (za == to) = true := by simpa using ha
            have ca : (za != to) = false := by simpa using ha
            have bn : (za == 0) = true := by simpa using hn
            have cn : (za != 0) = false := by simpa using hn
            have bf : (zf == 0) = false := by simpa using hf
            have cf : (zf != 0) = true := by simpa using hf
            have be : (ze == fr) = false := by simpa using he
            have ce : (ze != fr) = true := by simpa using he
            clear hp ha hn hf he
            go_wp2
            go_ret
            exact ⟨rBool HE.out.symm, O.out⟩
      · by_cases hf : zf = 0
        · have HE : Hid (decide (0 ≤ worthZ zp za ze zf fr fp to tp) = true) := hid (by
            have e : worthZ zp za ze zf fr fp to tp = 1 := by
              unfold worthZ
              (repeat' split) <;> omega
            rw [e]; rfl)
          have bp : (zp == tp) = true := by simpa using hp
          have cp : (zp != tp) = false := by simpa using hp
          have ba : (za == to) = true := by simpa using ha
          have ca : (za != to) = false := by simpa using ha
          have bn : (za == 0) = false := by simpa using hn
          have cn : (za != 0) = true := by simpa using hn
          have bf : (zf == 0) = true := by simpa using hf
          have cf : (zf != 0) = false := by simpa using hf
          clear hp ha hn hf
          go_wp2
          go_ret
          exact ⟨rBool HE.out.symm, O.out⟩
        · by_cases he : ze = fr
          · by_cases hq : zf = fp
            · have HE : Hid (decide (0 ≤ worthZ zp za ze zf fr fp to tp) = true) := hid (by
                have e : worthZ zp za ze zf fr fp to tp = 3 := by
                  unfold worthZ
                  (repeat' split) <;> omega
                rw [e]; rfl)
              have bp : (zp == tp) = true := by simpa using hp
              have cp : (zp != tp) = false := by simpa using hp
              have ba : (za == to) = true := by simpa using ha
              have ca : (za != to) = false := by simpa using ha
              have bn : (za == 0) = false := by simpa using hn
              have cn : (za != 0) = true := by simpa using hn
              have bf : (zf == 0) = false := by simpa using hf
              have cf : (zf != 0) = true := by simpa using hf
              have be : (ze == fr) = true := by simpa using he
              have ce : (ze != fr) = false := by simpa using he
              have bq : (zf == fp) = true := by simpa using hq
              have cq : (zf != fp) = false := by simpa using hq
              clear hp ha hn hf he hq
              go_wp2
              go_ret
              exact ⟨rBool HE.out.symm, O.out⟩
            · have HE : Hid (decide (0 ≤ worthZ zp za ze zf fr fp to tp) = false) := hid (by
                have e : worthZ zp za ze zf fr fp to tp = -1 := by
                  unfold worthZ
                  (repeat' split) <;> omega
                rw [e]; rfl)
              have bp : (zp == tp) = true := by simpa using hp
              have cp : (zp != tp) = false := by simpa using hp
              have ba : (za == to) = true := by simpa using ha
              have ca : (za != to) = false := by simpa using ha
              have bn : (za == 0) = false := by simpa using hn
              have cn : (za != 0) = true := by simpa using hn
              have bf : (zf == 0) = false := by simpa using hf
              have cf : (zf != 0) = true := by simpa using hf
              have be : (ze == fr) = true := by simpa using he
              have ce : (ze != fr) = false := by simpa using he
              have bq : (zf == fp) = false := by simpa using hq
              have cq : (zf != fp) = true := by simpa using hq
              clear hp ha hn hf he hq
              go_wp2
              go_ret
              exact ⟨rBool HE.out.symm, O.out⟩
          · have HE : Hid (decide (0 ≤ worthZ zp za ze zf fr fp to tp) = false) := hid (by
              have e : worthZ zp za ze zf fr fp to tp = -1 := by
                unfold worthZ
                (repeat' split) <;> omega
              rw [e]; rfl)
            have bp : (zp == tp) = true := by simpa using hp
            have cp : (zp != tp) = false := by simpa using hp
            have ba : (za == to) = true := by simpa using ha
            have ca : (za != to) = false := by simpa using ha
            have bn : (za == 0) = false := by simpa using hn
            have cn : (za != 0) = true := by simpa using hn
            have bf : (zf == 0) = false := by simpa using hf
            have cf : (zf != 0) = true := by simpa using hf
            have be : (ze == fr) = false := by simpa using he
            have ce : (ze != fr) = true := by simpa using he
            clear hp ha hn hf he
            go_wp2
            go_ret
            exact ⟨rBool HE.out.symm, O.out⟩
    · by_cases hn : za = 0
      · by_cases hf : zf = 0
        · have HE : Hid (decide (0 ≤ worthZ zp za ze zf fr fp to tp) = true) := hid (by
            have e : worthZ zp za ze zf fr fp to tp = 0 := by
              unfold worthZ
              (repeat' split) <;> omega
            rw [e]; rfl)
          have bp : (zp == tp) = true := by simpa using hp
          have cp : (zp != tp) = false := by simpa using hp
          have ba : (za == to) = false := by simpa using ha
          have ca : (za != to) = true := by simpa using ha
          have bn : (za == 0) = true := by simpa using hn
          have cn : (za != 0) = false := by simpa using hn
          have bf : (zf == 0) = true := by simpa using hf
          have cf : (zf != 0) = false := by simpa using hf
          clear hp ha hn hf
          go_wp2
          go_ret
          exact ⟨rBool HE.out.symm, O.out⟩
        · by_cases he : ze = fr
          · by_cases hq : zf = fp
            · have HE : Hid (decide (0 ≤ worthZ zp za ze zf fr fp to tp) = true) := hid (by
                have e : worthZ zp za ze zf fr fp to tp = 2 := by
                  unfold worthZ
                  (repeat' split) <;> omega
                rw [e]; rfl)
              have bp : (zp == tp) = true := by simpa using hp
              have cp : (zp != tp) = false := by simpa using hp
              have ba : (za == to) = false := by simpa using ha
              have ca : (za != to) = true := by simpa using ha
              have bn : (za == 0) = true := by simpa using hn
              have cn : (za != 0) = false := by simpa using hn
              have bf : (zf == 0) = false := by simpa using hf
              have cf : (zf != 0) = true := by simpa using hf
              have be : (ze == fr) = true := by simpa using he
              have ce : (ze != fr) = false := by simpa using he
              have bq : (zf == fp) = true := by simpa using hq
              have cq : (zf != fp) = false := by simpa using hq
              clear hp ha hn hf he hq
              go_wp2
              go_ret
              exact ⟨rBool HE.out.symm, O.out⟩
            · have HE : Hid (decide (0 ≤ worthZ zp za ze zf fr fp to tp) = false) := hid (by
                have e : worthZ zp za ze zf fr fp to tp = -1 := by
                  unfold worthZ
                  (repeat' split) <;> omega
                rw [e]; rfl)
              have bp : (zp == tp) = true := by simpa using hp
              have cp : (zp != tp) = false := by simpa using hp
              have ba : (za == to) = false := by simpa using ha
              have ca : (za != to) = true := by simpa using ha
              have bn : (za == 0) = true := by simpa using hn
              have cn : (za != 0) = false := by simpa using hn
              have bf : (zf == 0) = false := by simpa using hf
              have cf : (zf != 0) = true := by simpa using hf
              have be : (ze == fr) = true := by simpa using he
              have ce : (ze != fr) = false := by simpa using he
              have bq : (zf == fp) = false := by simpa using hq
              have cq : (zf != fp) = true := by simpa using hq
              clear hp ha hn hf he hq
              go_wp2
              go_ret
              exact ⟨rBool HE.out.symm, O.out⟩
          · have HE : Hid (decide (0 ≤ worthZ zp za ze zf fr fp to tp) = false) := hid (by
              have e : worthZ zp za ze zf fr fp to tp = -1 := by
                unfold worthZ
                (repeat' split) <;> omega
              rw [e]; rfl)
            have bp : (zp == tp) = true := by simpa using hp
            have cp : (zp != tp) = false := by simpa using hp
            have ba : (za == to) = false := by simpa using ha
            have ca : (za != to) = true := by simpa using ha
            have bn : (za == 0) = true := by simpa using hn
            have cn : (za != 0) = false := by simpa using hn
            have bf : (zf == 0) = false := by simpa using hf
            have cf : (zf != 0) = true := by simpa using hf
            have be : (ze == fr) = false := by simpa using he
            have ce : (ze != fr) = true := by simpa using he
            clear hp ha hn hf he
            go_wp2
            go_ret
            exact ⟨rBool HE.out.symm, O.out⟩
      · have HE : Hid (decide (0 ≤ worthZ zp za ze zf fr fp to tp) = false) := hid (by
          have e : worthZ zp za ze zf fr fp to tp = -1 := by
            unfold worthZ
            (repeat' split) <;> omega
          rw [e]; rfl)
        have bp : (zp == tp) = true := by simpa using hp
        have cp : (zp != tp) = false := by simpa using hp
        have ba : (za == to) = false := by simpa using ha
        have ca : (za != to) = true := by simpa using ha
        have bn : (za == 0) = false := by simpa using hn
        have cn : (za != 0) = true := by simpa using hn
        clear hp ha hn
        go_wp2
        go_ret
        exact ⟨rBool HE.out.symm, O.out⟩
  · have HE : Hid (decide (0 ≤ worthZ zp za ze zf fr fp to tp) = false) := hid (by
      have e : worthZ zp za ze zf fr fp to tp = -1 := by
        unfold worthZ
        (repeat' split) <;> omega
      rw [e]; rfl)
    have bp : (zp == tp) = false := by simpa using hp
    have cp : (zp != tp) = true := by simpa using hp
    clear hp
    go_wp2
    go_ret
    exact ⟨rBool HE.out.symm, O.out⟩
end Go.Proofs.Ytnhakcgkhhficaa.udp
/-
  Chapter 11 (udp): Find of the document's Ports that holds any list of places, by a walk of the text. Conditions: none but those typed.
-/
namespace Go.Proofs.Ytnhakcgkhhficaa.udp
set_option linter.unusedVariables false
set_option linter.unusedSimpArgs false
open Go.ChangeShapes Go.WideShapes Go.ChangeAt Go.RowKit Go.IntWalk Go.Lib
/-- How well the k-th binding fits. -/
def wz (L : List Bd) (fr fp to tp : Int) (k : Nat) : Int := worthZ (gt L k).p (gt L k).a (gt L k).e (gt L k).f fr fp to tp
/-- The best of the first k bindings, and its id. -/
def fnd (L : List Bd) (fr fp to tp : Int) : Nat → Int × Int
  | 0 => (-1, -1)
  | k + 1 => if (fnd L fr fp to tp k).1 < wz L fr fp to tp k ∨ (wz L fr fp to tp k = (fnd L fr fp to tp k).1 ∧ 0 ≤ wz L fr fp to tp k ∧ (gt L k).i < (fnd L fr fp to tp k).2) then (wz L fr fp to tp k, (gt L k).i) else fnd L fr fp to tp k
set_option maxRecDepth 100000 in
set_option maxHeartbeats 2000000 in
theorem findD (w : World) (g : Nat) (v : Value) (L : List Bd) (fr fp to tp : Int) (Ad : Option Addr) (nd cd : Nat) (h : PE w g v L) (hn : L.length ≤ 64) : Calls Try.prog 49 #[.pointer (some ⟨g, 0, none⟩), .agg #[.int .u32 fr, .int .i64 fp, .int .u32 to, .int .i64 tp, .slice Ad nd cd]] w fun x w' => x = .returned (.tuple #[.int .i64 (fnd L fr fp to tp L.length).2, .bool (decide (0 ≤ (fnd L fr fp to tp L.length).1))]) ∧ Only [] w w' := by
  obtain ⟨A, c, rfl, hb⟩ := h.form
  have HO := hid h.1
  have HB := hid hb
  have hgl := h.1.lt
  have Q0 : Hid (Only [] w (w.alloc (.cells #[.int .u32 fr, .int .i64 fp, .int .u32 to, .int .i64 tp, .slice Ad nd cd] 32))) := hid ((Only.refl [] w).alloc _)
  have OD : Hid (Ob (w.alloc (.cells #[.int .u32 fr, .int .i64 fp, .int .u32 to, .int .i64 tp, .slice Ad nd cd] 32)) w.heap.size 32 #[.int .u32 fr, .int .i64 fp, .int .u32 to, .int .i64 tp, .slice Ad nd cd]) := hid (Ob.new _ _ _)
  clear h hb
  generalize hln : L.length = n at *
  have HL := hid hln; clear hln
  go_enter Try.func49, Try.ntmps49
  go_wp2
  go_loopw [6, 7, 8] (fun b d i wr => ∃ k : Nat, k ≤ n ∧ i = .int .i64 k ∧ b = .int .i64 (fnd L fr fp to tp k).1 ∧ d = .int .i64 (fnd L fr fp to tp k).2 ∧ Hid (Only [] (w.alloc (.cells #[.int .u32 fr, .int .i64 fp, .int .u32 to, .int .i64 tp, .slice Ad nd cd] 32)) wr)) (fun _ _ i _ => n - (RowKit.intOf i).toNat)
  case atStart => exact ⟨0, by omega, rfl, rfl, rfl, hid (Only.refl _ _)⟩
  case round =>
    obtain ⟨k, hk, rfl, rfl, rfl, HW⟩ := hrel
    have OW := hid (OD.out.only HW.out (by simp))
    have OP := hid (HO.out.only (Q0.out.trans HW.out) (by simp))
    have c0 := OP.out.cell 0
    by_cases hlt : k < n
    · obtain ⟨b, off, rfl, hb, hc⟩ := (HB.out.only_nil (Q0.out.trans HW.out)) (by rw [HL.out]; omega)
      obtain ⟨q0, q1, q2, q3, q4⟩ := hc k (by rw [HL.out]; exact hlt)
      clear hc
      have HZ0 : Hid (fnd L fr fp to tp (k + 1) = if (fnd L fr fp to tp k).1 < wz L fr fp to tp k ∨ (wz L fr fp to tp k = (fnd L fr fp to tp k).1 ∧ 0 ≤ wz L fr fp to tp k ∧ (gt L k).i < (fnd L fr fp to tp k).2) then (wz L fr fp to tp k, (gt L k).i) else fnd L fr fp to tp k) := hid rfl
      have HWO := hid (worthD · (gt L k).i (gt L k).p (gt L k).a (gt L k).e (gt L k).f fr fp to tp Ad nd cd)
      have HWZ : Hid (wz L fr fp to tp k = worthZ (gt L k).p (gt L k).a (gt L k).e (gt L k).f fr fp to tp) := hid rfl
      clear q0 q1 q2 q3 q4 c0
      have c0 := OP.out.cell 0
      go_wp2
      refine stillTail 8 (by kernel_rfl) (by kernel_rfl) ?_
      intro W hW
      have HW1 : Hid (Only [] (w.alloc (.cells #[.int .u32 fr, .int .i64 fp, .int .u32 to, .int .i64 tp, .slice Ad nd cd] 32)) W) := hid (by rw [hW]; exact HW.out.drew)
      have c0 : W.cell? ⟨g, 0, none⟩ = _ := (HO.out.only (Q0.out.trans HW1.out) (by simp)).cell 0
      have OW1 := OD.out.only HW1.out (by simp)
      have d0 := OW1.cell 0; have d1 := OW1.cell 1; have d2 := OW1.cell 2; have d3 := OW1.cell 3; have d4 := OW1.cell 4
      obtain ⟨b2, off2, e2, _, hc2⟩ := (HB.out.only_nil (Q0.out.trans HW1.out)) (by rw [HL.out]; omega)
      injection e2 with e2; injection e2 with e2 e3
      subst e2 e3
      obtain ⟨q0, q1, q2, q3, q4⟩ := hc2 k (by rw [HL.out]; exact hlt)
      clear hc2 hW OW1
      simp only [List.take_succ_cons, List.take_zero, List.drop_succ_cons, List.drop_zero]
      repeat still_step
      refine wpStill_nil ?_
      go_wp2_with fail
      refine (worthD W (gt L k).i (gt L k).p (gt L k).a (gt L k).e (gt L k).f fr fp to tp Ad nd cd).mono ?_
      rintro x w3 ⟨rfl, o3⟩
      have HW3 : Hid (Only [] (w.alloc (.cells #[.int .u32 fr, .int .i64 fp, .int .u32 to, .int .i64 tp, .slice Ad nd cd] 32)) w3) := hid (HW1.out.trans o3)
      have c0 : w3.cell? ⟨g, 0, none⟩ = _ := (HO.out.only (Q0.out.trans HW3.out) (by simp)).cell 0
      have p0 := o3.keep q0
      clear q0 q1 q2 q3 q4 o3 d0 d1 d2 d3 d4 HWO
      rw [HWZ.out] at HZ0
      generalize hz : worthZ (gt L k).p (gt L k).a (gt L k).e (gt L k).f fr fp to tp = z at *
      generalize hzi : (gt L k).i = zi at *
      generalize hb1 : (fnd L fr fp to tp k).1 = bz at *
      generalize hb2 : (fnd L fr fp to tp k).2 = bi at *
      have HB1 := hid hb1; have HB2 := hid hb2
      clear hz hzi hb1 hb2 HWZ
      by_cases h1 : bz < z
      · have HZ : Hid (fnd L fr fp to tp (k + 1) = (z, zi)) := hid (by rw [HZ0.out, if_pos (by omega)])
        clear HZ0
        go_wp2
        go_roundw
        case rel => exact ⟨k + 1, by omega, by go_num, by rw [HZ.out], by rw [HZ.out], HW3⟩
        case measure => simp [RowKit.intOf]; omega
      · by_cases h2 : z = bz
        · by_cases h3 : 0 ≤ z
          · by_cases h4 : zi < bi
            · have HZ : Hid (fnd L fr fp to tp (k + 1) = (z, zi)) := hid (by rw [HZ0.out, if_pos (by omega)])
              have e2 : (z == bz) = true := by simpa using h2
              have H2 := hid h2; clear h2
              clear HZ0
              go_wp2
              go_roundw
              case rel => exact ⟨k + 1, by omega, by go_num, by rw [HZ.out], by rw [HZ.out], HW3⟩
              case measure => simp [RowKit.intOf]; omega
            · have HZ : Hid (fnd L fr fp to tp (k + 1) = fnd L fr fp to tp k) := hid (by rw [HZ0.out, if_neg (by omega)])
              have e2 : (z == bz) = true := by simpa using h2
              have H2 := hid h2; clear h2
              clear HZ0
              go_wp2
              go_roundw
              case rel => exact ⟨k + 1, by omega, by go_num, by rw [HZ.out, HB1.out], by rw [HZ.out, HB2.out], HW3⟩
              case measure => simp [RowKit.intOf]; omega
          · have HZ : Hid (fnd L fr fp to tp (k + 1) = fnd L fr fp to tp k) := hid (by rw [HZ0.out, if_neg (by omega)])
            have e2 : (z == bz) = true := by simpa using h2
            have H2 := hid h2; clear h2
            clear HZ0
            go_wp2
            go_roundw
            case rel => exact ⟨k + 1, by omega, by go_num, by rw [HZ.out, HB1.out], by rw [HZ.out, HB2.out], HW3⟩
            case measure => simp [RowKit.intOf]; omega
        · have HZ : Hid (fnd L fr fp to tp (k + 1) = fnd L fr fp to tp k) := hid (by rw [HZ0.out, if_neg (by omega)])
          have e2 : (z == bz) = false := by simpa using h2
          clear HZ0
          go_wp2
          go_roundw
          case rel => exact ⟨k + 1, by omega, by go_num, by rw [HZ.out, HB1.out], by rw [HZ.out, HB2.out], HW3⟩
          case measure => simp [RowKit.intOf]; omega
    · obtain rfl : k = n := by omega
      go_wp2
      go_ret2
      exact ⟨rfl, (Q0.out.trans HW.out)⟩
end Go.Proofs.Ytnhakcgkhhficaa.udp
/-
  Chapter 11 (udp): rank, and the library's Compare and Or of numbers, by a walk of each text. Conditions: none but those typed.
-/
namespace Go.Proofs.Ytnhakcgkhhficaa.udp
set_option linter.unusedVariables false
set_option linter.unusedSimpArgs false
open Go.ChangeShapes Go.WideShapes Go.ChangeAt Go.RowKit Go.IntWalk Go.Lib
def cmpZ (a b : Int) : Int := if a < b then -1 else if b < a then 1 else 0
def orZ (x y z : Int) : Int := if x ≠ 0 then x else if y ≠ 0 then y else z
theorem nan0 (w : World) (a : Int) : Calls Try.prog 72 #[.int .i64 a] w fun x w' => x = .returned (.bool false) ∧ w = w' := by
  go_enter Try.func72, Try.ntmps72
  go_wp2
  go_ret
  exact ⟨rBool (by simp), rfl⟩
theorem rank1 (w : World) (b : Bool) : Calls Try.prog 54 #[.bool b] w fun x w' => x = .returned (.int .i64 (if b then 0 else 1)) ∧ w = w' := by
  cases b
  · go_enter Try.func54, Try.ntmps54
    go_wp2
    go_ret
    exact ⟨rfl, rfl⟩
  · go_enter Try.func54, Try.ntmps54
    go_wp2
    go_ret
    exact ⟨rfl, rfl⟩
theorem cmp1 (w : World) (a b : Int) : Calls Try.prog 53 #[.int .i64 a, .int .i64 b] w fun x w' => x = .returned (.int .i64 (cmpZ a b)) ∧ w = w' := by
  by_cases h1 : a < b
  · have HE : Hid (cmpZ a b = -1) := hid (by unfold cmpZ; rw [if_pos h1])
    go_enter Try.func53, Try.ntmps53
    go_wp2_with fail
    refine (nan0 w a).mono ?_
    rintro x w' ⟨rfl, rfl⟩
    go_wp2_with fail
    refine (nan0 w b).mono ?_
    rintro x w' ⟨rfl, rfl⟩
    go_wp2
    go_ret
    exact ⟨rInt HE.out.symm, rfl⟩
  · by_cases h2 : b < a
    · have HE : Hid (cmpZ a b = 1) := hid (by unfold cmpZ; rw [if_neg h1, if_pos h2])
      go_enter Try.func53, Try.ntmps53
      go_wp2_with fail
      refine (nan0 w a).mono ?_
      rintro x w' ⟨rfl, rfl⟩
      go_wp2_with fail
      refine (nan0 w b).mono ?_
      rintro x w' ⟨rfl, rfl⟩
      go_wp2
      go_ret
      exact ⟨rInt HE.out.symm, rfl⟩
    · have HE : Hid (cmpZ a b = 0) := hid (by unfold cmpZ; rw [if_neg h1, if_neg h2])
      go_enter Try.func53, Try.ntmps53
      go_wp2_with fail
      refine (nan0 w a).mono ?_
      rintro x w' ⟨rfl, rfl⟩
      go_wp2_with fail
      refine (nan0 w b).mono ?_
      rintro x w' ⟨rfl, rfl⟩
      go_wp2
      go_ret
      exact ⟨rInt HE.out.symm, rfl⟩
set_option maxHeartbeats 1000000 in
theorem or3 (w : World) (g : Nat) (T : TypeId) (x y z : Int) (h : Ob w g T #[.int .i64 x, .int .i64 y, .int .i64 z]) : Calls Try.prog 52 #[.slice (some ⟨g, 0, none⟩) 3 3] w fun r w' => r = .returned (.int .i64 (orZ x y z)) ∧ Only [] w w' := by
  have H := hid h; clear h
  go_enter Try.func52, Try.ntmps52
  go_wp2
  go_loopw [8] (fun i wr => ∃ k : Nat, k ≤ 3 ∧ i = .int .i64 k ∧ Hid ((0 < k → x = 0) ∧ (1 < k → y = 0) ∧ (2 < k → z = 0)) ∧ Hid (Only [] w wr)) (fun i _ => 3 - (RowKit.intOf i).toNat)
  case atStart => exact ⟨0, by omega, rfl, hid ⟨by omega, by omega, by omega⟩, hid (Only.refl _ _)⟩
  case round =>
    obtain ⟨k, hk, rfl, HF, HW⟩ := hrel
    have o := H.out.only HW.out (by simp)
    have c0 := o.cell 0; have c1 := o.cell 1; have c2 := o.cell 2
    clear o
    obtain ⟨f0, f1, f2⟩ := HF.out
    clear HF
    obtain rfl | rfl | rfl | rfl : k = 0 ∨ k = 1 ∨ k = 2 ∨ k = 3 := by omega
    · by_cases hv : x = 0
      · have HF : Hid ((0 < 1 → x = 0) ∧ (1 < 1 → y = 0) ∧ (2 < 1 → z = 0)) := hid ⟨by omega, by omega, by omega⟩
        have b0 : (x != 0) = false := by simpa using hv
        clear f0 f1 f2 hv
        go_wp2
        go_roundw
        case rel => exact ⟨1, by omega, by go_num, HF, HW⟩
        case measure => simp [RowKit.intOf]
      · have HE : Hid (orZ x y z = x) := hid (by unfold orZ; rw [if_pos hv])
        have b0 : (x != 0) = true := by simpa using hv
        clear f0 f1 f2
        go_wp2
        go_ret
        exact ⟨rInt HE.out.symm, HW.out⟩
    · have e0 := f0 (by omega)
      by_cases hv : y = 0
      · have HF : Hid ((0 < 2 → x = 0) ∧ (1 < 2 → y = 0) ∧ (2 < 2 → z = 0)) := hid ⟨by omega, by omega, by omega⟩
        have b0 : (y != 0) = false := by simpa using hv
        clear f0 f1 f2 hv e0
        go_wp2
        go_roundw
        case rel => exact ⟨2, by omega, by go_num, HF, HW⟩
        case measure => simp [RowKit.intOf]
      · have HE : Hid (orZ x y z = y) := hid (by unfold orZ; rw [if_neg (by omega), if_pos hv])
        have b0 : (y != 0) = true := by simpa using hv
        clear f0 f1 f2 e0
        go_wp2
        go_ret
        exact ⟨rInt HE.out.symm, HW.out⟩
    · have e0 := f0 (by omega)
      have e1 := f1 (by omega)
      by_cases hv : z = 0
      · have HF : Hid ((0 < 3 → x = 0) ∧ (1 < 3 → y = 0) ∧ (2 < 3 → z = 0)) := hid ⟨by omega, by omega, by omega⟩
        have b0 : (z != 0) = false := by simpa using hv
        clear f0 f1 f2 hv e0 e1
        go_wp2
        go_roundw
        case rel => exact ⟨3, by omega, by go_num, HF, HW⟩
        case measure => simp [RowKit.intOf]
      · have HE : Hid (orZ x y z = z) := hid (by unfold orZ; rw [if_neg (by omega), if_neg (by omega)])
        have b0 : (z != 0) = true := by simpa using hv
        clear f0 f1 f2 e0 e1
        go_wp2
        go_ret
        exact ⟨rInt HE.out.symm, HW.out⟩
    · have e0 := f0 (by omega)
      have e1 := f1 (by omega)
      have e2 := f2 (by omega)
      have HE : Hid (orZ x y z = 0) := hid (by unfold orZ; rw [if_neg (by omega), if_neg (by omega)]; exact e2)
      clear f0 f1 f2 e0 e1 e2
      go_wp2
      go_ret
      exact ⟨rInt HE.out.symm, HW.out⟩
end Go.Proofs.Ytnhakcgkhhficaa.udp
/-
  Chapter 11 (udp): which of two bindings takes precedence, by a walk of the text. Conditions: none but those typed.
-/
namespace Go.Proofs.Ytnhakcgkhhficaa.udp
set_option linter.unusedVariables false
set_option linter.unusedSimpArgs false
open Go.ChangeShapes Go.WideShapes Go.ChangeAt Go.RowKit Go.IntWalk Go.Lib
def rk (b : Bool) : Int := if b then 0 else 1
def compZ (i1 a1 f1 i2 a2 f2 to : Int) : Int := orZ (cmpZ (rk (f1 != 0)) (rk (f2 != 0))) (cmpZ (rk (a1 == to)) (rk (a2 == to))) (cmpZ i1 i2)
theorem rank2 (w : World) (b : Bool) : Calls Try.prog 54 #[.bool b] w fun x w' => x = .returned (.int .i64 (rk b)) ∧ w = w' := rank1 w b
set_option maxRecDepth 100000 in
set_option maxHeartbeats 2000000 in
theorem compareL (w : World) (i1 a1 p1 e1 f1 i2 a2 p2 e2 f2 to : Int) : Calls Try.prog 33 #[.agg #[.int .i64 i1, .int .u32 a1, .int .i64 p1, .int .u32 e1, .int .i64 f1], .agg #[.int .i64 i2, .int .u32 a2, .int .i64 p2, .int .u32 e2, .int .i64 f2], .int .u32 to] w fun x w' => x = .returned (.int .i64 (compZ i1 a1 f1 i2 a2 f2 to)) ∧ Only [] w w' := by
  have HZ : Hid (compZ i1 a1 f1 i2 a2 f2 to = orZ (cmpZ (rk (f1 != 0)) (rk (f2 != 0))) (cmpZ (rk (a1 == to)) (rk (a2 == to))) (cmpZ i1 i2)) := hid rfl
  go_enter Try.func33, Try.ntmps33
  go_wp2_with fail
  have OB1 : Hid (Ob ((w.alloc (.cells #[.int .i64 i1, .int .u32 a1, .int .i64 p1, .int .u32 e1, .int .i64 f1] 74)).alloc (.cells #[.int .i64 i2, .int .u32 a2, .int .i64 p2, .int .u32 e2, .int .i64 f2] 74)) w.heap.size 74 #[.int .i64 i1, .int .u32 a1, .int .i64 p1, .int .u32 e1, .int .i64 f1]) := hid ((Ob.new _ _ _).alloc _)
  have OB2 : Hid (Ob ((w.alloc (.cells #[.int .i64 i1, .int .u32 a1, .int .i64 p1, .int .u32 e1, .int .i64 f1] 74)).alloc (.cells #[.int .i64 i2, .int .u32 a2, .int .i64 p2, .int .u32 e2, .int .i64 f2] 74)) (w.heap.size + 1) 74 #[.int .i64 i2, .int .u32 a2, .int .i64 p2, .int .u32 e2, .int .i64 f2]) := hid (by simpa using Ob.new (w.alloc (.cells #[.int .i64 i1, .int .u32 a1, .int .i64 p1, .int .u32 e1, .int .i64 f1] 74)) 74 #[.int .i64 i2, .int .u32 a2, .int .i64 p2, .int .u32 e2, .int .i64 f2])
  have Q : Hid (Only [] w ((w.alloc (.cells #[.int .i64 i1, .int .u32 a1, .int .i64 p1, .int .u32 e1, .int .i64 f1] 74)).alloc (.cells #[.int .i64 i2, .int .u32 a2, .int .i64 p2, .int .u32 e2, .int .i64 f2] 74))) := hid (((Only.refl [] w).alloc _).alloc _)
  generalize ((w.alloc (.cells #[.int .i64 i1, .int .u32 a1, .int .i64 p1, .int .u32 e1, .int .i64 f1] 74)).alloc (.cells #[.int .i64 i2, .int .u32 a2, .int .i64 p2, .int .u32 e2, .int .i64 f2] 74)) = W at *
  have k0 := OB1.out.cell 4; have k1 := OB1.out.cell 1; have k2 := OB1.out.cell 0
  have k3 := OB2.out.cell 4; have k4 := OB2.out.cell 1; have k5 := OB2.out.cell 0
  go_region_held3 (fun w' => w'.cell? ⟨w.heap.size, 4, none⟩ = some (.int .i64 f1) ∧ w'.cell? ⟨w.heap.size, 1, none⟩ = some (.int .u32 a1) ∧ w'.cell? ⟨w.heap.size, 0, none⟩ = some (.int .i64 i1) ∧ w'.cell? ⟨w.heap.size + 1, 4, none⟩ = some (.int .i64 f2) ∧ w'.cell? ⟨w.heap.size + 1, 1, none⟩ = some (.int .u32 a2) ∧ w'.cell? ⟨w.heap.size + 1, 0, none⟩ = some (.int .i64 i2)) (go_keep) (first
    | (go_at_call 54; refine (rank2 _ _).mono ?_; rintro x w2 ⟨rfl, rfl⟩)
    | (go_at_call 53; refine (cmp1 _ _ _).mono ?_; rintro x w2 ⟨rfl, rfl⟩)
    | (go_at_call 52; refine (or3 _ _ _ _ _ _ (Ob.drew (Ob.new _ _ _))).mono ?_; rintro x w2 ⟨rfl, q2⟩; have Q := hid ((Q.out.alloc _).drew.trans q2); have OB1 := hid ((Ob.drew (OB1.out.alloc _)).only q2 (by simp)); have OB2 := hid ((Ob.drew (OB2.out.alloc _)).only q2 (by simp)); clear q2; have k0 := OB1.out.cell 4; have k1 := OB1.out.cell 1; have k2 := OB1.out.cell 0; have k3 := OB2.out.cell 4; have k4 := OB2.out.cell 1; have k5 := OB2.out.cell 0))
  go_wp2
  go_ret
  exact ⟨rInt HZ.out.symm, Q.out⟩
end Go.Proofs.Ytnhakcgkhhficaa.udp
/-
  Chapter 11 (udp): Find of a Ports that holds any list of bindings, by a walk of its text. Conditions: none but those typed.
-/
namespace Go.Proofs.Ytnhakcgkhhficaa.udp
set_option linter.unusedVariables false
set_option linter.unusedSimpArgs false
open Go.ChangeShapes Go.WideShapes Go.ChangeAt Go.RowKit Go.IntWalk Go.Lib
/-- Which of two bindings that are considered takes precedence: the one that fits better, else that of the smaller id. -/
theorem beats (xi xa xp xe xf yi ya yp ye yf fr fp to tp : Int) (hx : 0 ≤ worthZ xp xa xe xf fr fp to tp) (hy : 0 ≤ worthZ yp ya ye yf fr fp to tp) :
    decide (compZ xi xa xf yi ya yf to < 0) = decide (worthZ yp ya ye yf fr fp to tp < worthZ xp xa xe xf fr fp to tp ∨ (worthZ xp xa xe xf fr fp to tp = worthZ yp ya ye yf fr fp to tp ∧ xi < yi)) := by
  have ex : ∀ p a e f : Int, 0 ≤ worthZ p a e f fr fp to tp → worthZ p a e f fr fp to tp = (if f ≠ 0 then 2 else 0) + (if a = to ∧ a ≠ 0 then 1 else 0) ∧ (a = to ∨ a = 0) := by
    intro p a e f h
    unfold worthZ at h ⊢
    split at h
    · omega
    · rename_i h1
      split at h
      · omega
      · rename_i h2
        refine ⟨by rw [if_neg h1, if_neg h2], ?_⟩
        omega
  obtain ⟨e1, a1⟩ := ex _ _ _ _ hx
  obtain ⟨e2, a2⟩ := ex _ _ _ _ hy
  rw [e1, e2]
  clear ex e1 e2 hx hy
  congr 1
  unfold compZ orZ cmpZ rk
  by_cases f1 : xf = 0 <;> by_cases f2 : yf = 0 <;> by_cases b1 : xa = to <;> by_cases b2 : ya = to <;> simp [f1, f2, b1, b2] <;> (repeat' split) <;> omega
/-- What best is behind the first k bindings. -/
def Bst (L : List Bd) (fr fp to tp : Int) (A : Option Addr) (k : Nat) (v : Value) : Prop :=
  (fnd L fr fp to tp k = (-1, -1) ∧ v = .pointer none) ∨ ∃ m b off, m < k ∧ A = some ⟨b, off, none⟩ ∧ v = .pointer (some ⟨b, off + m * 5, none⟩) ∧ (fnd L fr fp to tp k).1 = wz L fr fp to tp m ∧ 0 ≤ wz L fr fp to tp m ∧ (fnd L fr fp to tp k).2 = (gt L m).i
theorem Bst.keep {L : List Bd} {fr fp to tp : Int} {A : Option Addr} {k : Nat} {v : Value} (h : Bst L fr fp to tp A k v) (e : fnd L fr fp to tp (k + 1) = fnd L fr fp to tp k) : Bst L fr fp to tp A (k + 1) v := by
  rcases h with ⟨h1, h2⟩ | ⟨m, b, off, hm, r⟩
  · exact .inl ⟨by rw [e, h1], h2⟩
  · exact .inr ⟨m, b, off, by omega, by rw [e]; exact r⟩
theorem Bst.take {L : List Bd} {fr fp to tp : Int} {b off k : Nat} (h : 0 ≤ wz L fr fp to tp k) (e : fnd L fr fp to tp (k + 1) = (wz L fr fp to tp k, (gt L k).i)) : Bst L fr fp to tp (some ⟨b, off, none⟩) (k + 1) (.pointer (some ⟨b, off + k * 5, none⟩)) :=
  .inr ⟨k, b, off, by omega, rfl, rfl, by rw [e], h, by rw [e]⟩
set_option maxRecDepth 100000 in
set_option maxHeartbeats 2000000 in
theorem findL (w : World) (g : Nat) (v : Value) (L : List Bd) (fr fp to tp : Int) (Ad : Option Addr) (nd cd : Nat) (h : PV w g v L) (hn : L.length ≤ 64) : Calls Try.prog 14 #[.pointer (some ⟨g, 0, none⟩), .agg #[.int .u32 fr, .int .i64 fp, .int .u32 to, .int .i64 tp, .slice Ad nd cd]] w fun x w' => x = .returned (.tuple #[.int .i64 (fnd L fr fp to tp L.length).2, .bool (decide (0 ≤ (fnd L fr fp to tp L.length).1))]) ∧ Only [] w w' := by
  obtain ⟨A, c, rfl, hb⟩ := h.form
  have HO := hid h.1
  have HB := hid hb
  have hgl := h.1.lt
  have Q0 : Hid (Only [] w (w.alloc (.cells #[.int .u32 fr, .int .i64 fp, .int .u32 to, .int .i64 tp, .slice Ad nd cd] 32))) := hid ((Only.refl [] w).alloc _)
  have OD : Hid (Ob (w.alloc (.cells #[.int .u32 fr, .int .i64 fp, .int .u32 to, .int .i64 tp, .slice Ad nd cd] 32)) w.heap.size 32 #[.int .u32 fr, .int .i64 fp, .int .u32 to, .int .i64 tp, .slice Ad nd cd]) := hid (Ob.new _ _ _)
  have c0 : (w.alloc (.cells #[.int .u32 fr, .int .i64 fp, .int .u32 to, .int .i64 tp, .slice Ad nd cd] 32)).cell? ⟨g, 0, none⟩ = _ := (HO.out.only Q0.out (by simp)).cell 0
  clear h hb
  generalize hln : L.length = n at *
  have HL := hid hln; clear hln
  go_enter Try.func14, Try.ntmps14
  go_wp2
  go_loopw [6, 7, 8, 16] (fun bs i p ct wr => ∃ k : Nat, k ≤ n ∧ ct = .int .i64 k ∧ Hid (Bst L fr fp to tp A k bs) ∧ Hid (Only [] (w.alloc (.cells #[.int .u32 fr, .int .i64 fp, .int .u32 to, .int .i64 tp, .slice Ad nd cd] 32)) wr)) (fun _ _ _ ct _ => n - (RowKit.intOf ct).toNat)
  case atStart => exact ⟨0, by omega, rfl, hid (.inl ⟨rfl, rfl⟩), hid (Only.refl _ _)⟩
  case round =>
    obtain ⟨k, hk, rfl, HBS, HW⟩ := hrel
    have OW := hid (OD.out.only HW.out (by simp))
    clear c0
    have c0 : wr.cell? ⟨g, 0, none⟩ = _ := (HO.out.only (Q0.out.trans HW.out) (by simp)).cell 0
    by_cases hlt : k < n
    · obtain ⟨b, off, rfl, hb, hc⟩ := (HB.out.only_nil (Q0.out.trans HW.out)) (by omega)
      obtain ⟨q0, q1, q2, q3, q4⟩ := hc k hlt
      have HCC := hid hc
      clear hc
      have d0 := OW.out.cell 0; have d1 := OW.out.cell 1; have d2 := OW.out.cell 2; have d3 := OW.out.cell 3; have d4 := OW.out.cell 4
      have HZ0 : Hid (fnd L fr fp to tp (k + 1) = if (fnd L fr fp to tp k).1 < wz L fr fp to tp k ∨ (wz L fr fp to tp k = (fnd L fr fp to tp k).1 ∧ 0 ≤ wz L fr fp to tp k ∧ (gt L k).i < (fnd L fr fp to tp k).2) then (wz L fr fp to tp k, (gt L k).i) else fnd L fr fp to tp k) := hid rfl
      have HWZ : Hid (wz L fr fp to tp k = worthZ (gt L k).p (gt L k).a (gt L k).e (gt L k).f fr fp to tp) := hid rfl
      by_cases hw : 0 ≤ wz L fr fp to tp k
      · have HC : Hid (decide (0 ≤ wz L fr fp to tp k) = true) := hid (by simpa using hw)
        rcases HBS.out with ⟨e1, rfl⟩ | ⟨m, b', off', hm, eA, rfl, e1, e2, e3⟩
        · have HN : Hid (fnd L fr fp to tp (k + 1) = (wz L fr fp to tp k, (gt L k).i)) := hid (by rw [HZ0.out, if_pos (by rw [e1]; left; show (-1 : Int) < _; omega)])
          have HW9 := hid hw
          clear e1 HBS HZ0 hw
          go_wp2_with fail
          refine wp_region_noPanic ?_
          refine rgn.regionT (R := Only []) (by kernel_rfl) (Only.refl []) (fun _ _ _ => Only.trans) (fun _ _ _ _ _ h => h) (.y 0 (.y 1 (.y 2 (.y 3 (.e 4 (.y 5 (.y 6 (.y 7 (.y 8 (.y 9 (.y 10 (.y 11 (.y 12 (.y 13 (.y 14 (.y 15 (.y 16 (.e 17 (.y 18 (.y 19 (.y 20 .z))))))))))))))))))))) (by kernel_rfl) (fun W hWd => ?_)
          have HWd := hid hWd; clear hWd
          have HW := hid (HW.out.eq_drew HWd.out)
          have q0 := (Only.eq_drew (Only.refl [] wr) HWd.out).keep q0
          have q1 := (Only.eq_drew (Only.refl [] wr) HWd.out).keep q1
          have q2 := (Only.eq_drew (Only.refl [] wr) HWd.out).keep q2
          have q3 := (Only.eq_drew (Only.refl [] wr) HWd.out).keep q3
          have q4 := (Only.eq_drew (Only.refl [] wr) HWd.out).keep q4
          have d0 := (Only.eq_drew (Only.refl [] wr) HWd.out).keep d0
          have d1 := (Only.eq_drew (Only.refl [] wr) HWd.out).keep d1
          have d2 := (Only.eq_drew (Only.refl [] wr) HWd.out).keep d2
          have d3 := (Only.eq_drew (Only.refl [] wr) HWd.out).keep d3
          have d4 := (Only.eq_drew (Only.refl [] wr) HWd.out).keep d4
          clear HWd
          refine rgn.Walk.ys (v := ?_) rfl rfl rfl ?_ ?_
          rotate_left 1
          · intro W' hW'
            go_simp
            try with_reducible rfl
          try simp only [Act.put, List.setIfInBounds_toArray, List.set_cons_zero, List.set_cons_succ]
          refine rgn.Walk.ys (v := ?_) rfl rfl rfl ?_ ?_
          rotate_left 1
          · intro W' hW'
            go_simp
            try with_reducible rfl
          try simp only [Act.put, List.setIfInBounds_toArray, List.set_cons_zero, List.set_cons_succ]
          refine rgn.Walk.ys (v := ?_) rfl rfl rfl ?_ ?_
          rotate_left 1
          · intro W' hW'
            have q0 := hW'.keep q0; have q1 := hW'.keep q1; have q2 := hW'.keep q2; have q3 := hW'.keep q3; have q4 := hW'.keep q4
            go_simp
            try with_reducible rfl
          try simp only [Act.put, List.setIfInBounds_toArray, List.set_cons_zero, List.set_cons_succ]
          refine rgn.Walk.ys (v := ?_) rfl rfl rfl ?_ ?_
          rotate_left 1
          · intro W' hW'
            have d0 := hW'.keep d0; have d1 := hW'.keep d1; have d2 := hW'.keep d2; have d3 := hW'.keep d3; have d4 := hW'.keep d4
            go_simp
            try with_reducible rfl
          try simp only [Act.put, List.setIfInBounds_toArray, List.set_cons_zero, List.set_cons_succ]
          refine rgn.Walk.es ?_
          refine rgn.stepE rfl rfl (fun K hK => ?_)
          go_simp
          refine (hearsL _ (gt L k).i (gt L k).p (gt L k).a (gt L k).e (gt L k).f fr fp to tp Ad nd cd).mono ?_
          rintro x w4 ⟨rfl, o4⟩
          rw [← HWZ.out, HC.out]
          refine hK _ _ o4 ?_
          clear hK K
          try simp only [Act.put, List.setIfInBounds_toArray, List.set_cons_zero, List.set_cons_succ]
          have HW := hid (HW.out.trans o4)
          have q0 := o4.keep q0
          have q1 := o4.keep q1
          have q2 := o4.keep q2
          have q3 := o4.keep q3
          have q4 := o4.keep q4
          have d0 := o4.keep d0
          have d1 := o4.keep d1
          have d2 := o4.keep d2
          have d3 := o4.keep d3
          have d4 := o4.keep d4
          clear o4
          refine rgn.Walk.ys (v := ?_) rfl rfl rfl ?_ ?_
          rotate_left 1
          · intro W' hW'
            go_simp
            try with_reducible rfl
          try simp only [Act.put, List.setIfInBounds_toArray, List.set_cons_zero, List.set_cons_succ]
          refine rgn.Walk.ys (v := ?_) rfl rfl rfl ?_ ?_
          rotate_left 1
          · intro W' hW'
            go_simp
            try with_reducible rfl
          try simp only [Act.put, List.setIfInBounds_toArray, List.set_cons_zero, List.set_cons_succ]
          refine rgn.Walk.ys (v := ?_) rfl rfl rfl ?_ ?_
          rotate_left 1
          · intro W' hW'
            go_simp
            try with_reducible rfl
          try simp only [Act.put, List.setIfInBounds_toArray, List.set_cons_zero, List.set_cons_succ]
          refine rgn.Walk.ys (v := ?_) rfl rfl rfl ?_ ?_
          rotate_left 1
          · intro W' hW'
            go_simp
            try with_reducible rfl
          try simp only [Act.put, List.setIfInBounds_toArray, List.set_cons_zero, List.set_cons_succ]
          refine rgn.Walk.yn rfl rfl rfl ?_
          try simp only [Act.put, List.setIfInBounds_toArray, List.set_cons_zero, List.set_cons_succ]
          refine rgn.Walk.yn rfl rfl rfl ?_
          try simp only [Act.put, List.setIfInBounds_toArray, List.set_cons_zero, List.set_cons_succ]
          refine rgn.Walk.yn rfl rfl rfl ?_
          try simp only [Act.put, List.setIfInBounds_toArray, List.set_cons_zero, List.set_cons_succ]
          refine rgn.Walk.yn rfl rfl rfl ?_
          try simp only [Act.put, List.setIfInBounds_toArray, List.set_cons_zero, List.set_cons_succ]
          refine rgn.Walk.yn rfl rfl rfl ?_
          try simp only [Act.put, List.setIfInBounds_toArray, List.set_cons_zero, List.set_cons_succ]
          refine rgn.Walk.yn rfl rfl rfl ?_
          try simp only [Act.put, List.setIfInBounds_toArray, List.set_cons_zero, List.set_cons_succ]
          refine rgn.Walk.yn rfl rfl rfl ?_
          try simp only [Act.put, List.setIfInBounds_toArray, List.set_cons_zero, List.set_cons_succ]
          refine rgn.Walk.yn rfl rfl rfl ?_
          try simp only [Act.put, List.setIfInBounds_toArray, List.set_cons_zero, List.set_cons_succ]
          refine rgn.Walk.es (rgn.stepN (Only.refl []) rfl rfl rfl ?_)
          try simp only [Act.put, List.setIfInBounds_toArray, List.set_cons_zero, List.set_cons_succ]
          refine rgn.Walk.yn rfl rfl rfl ?_
          try simp only [Act.put, List.setIfInBounds_toArray, List.set_cons_zero, List.set_cons_succ]
          refine rgn.Walk.ys (v := ?_) rfl rfl rfl ?_ ?_
          rotate_left 1
          · intro W' hW'
            go_simp
            try with_reducible rfl
          try simp only [Act.put, List.setIfInBounds_toArray, List.set_cons_zero, List.set_cons_succ]
          refine rgn.Walk.ys (v := ?_) rfl rfl rfl ?_ ?_
          rotate_left 1
          · intro W' hW'
            go_simp
            try with_reducible rfl
          try simp only [Act.put, List.setIfInBounds_toArray, List.set_cons_zero, List.set_cons_succ]
          refine rgn.Walk.zs (NoPanic.normal ?_)
          clear q0 q1 q2 q3 q4 d0 d1 d2 d3 d4
          go_wp2
          go_roundw
          case rel => exact ⟨k + 1, by omega, by go_num, hid (Bst.take HW9.out HN.out), HW⟩
          case measure => simp [RowKit.intOf]; omega
        · injection eA with eA; injection eA with eb eo
          subst eb eo
          obtain ⟨p0, p1, p2, p3, p4⟩ := HCC.out m (by omega)
          have HBT := hid (beats (gt L k).i (gt L k).a (gt L k).p (gt L k).e (gt L k).f (gt L m).i (gt L m).a (gt L m).p (gt L m).e (gt L m).f fr fp to tp (by rw [← HWZ.out]; exact hw) e2)
          have HCD : Hid (decide (compZ (gt L k).i (gt L k).a (gt L k).f (gt L m).i (gt L m).a (gt L m).f to < 0) = decide ((fnd L fr fp to tp k).1 < wz L fr fp to tp k ∨ (wz L fr fp to tp k = (fnd L fr fp to tp k).1 ∧ 0 ≤ wz L fr fp to tp k ∧ (gt L k).i < (fnd L fr fp to tp k).2))) := hid (by
            rw [HBT.out, e1, e3]
            have e4 : wz L fr fp to tp m = worthZ (gt L m).p (gt L m).a (gt L m).e (gt L m).f fr fp to tp := rfl
            rw [← HWZ.out, ← e4]
            apply decide_eq_decide.2
            omega)
          have HW9 := hid hw
          clear e1 e2 e3 hw HBT
          by_cases hcp : compZ (gt L k).i (gt L k).a (gt L k).f (gt L m).i (gt L m).a (gt L m).f to < 0
          · have HN : Hid (fnd L fr fp to tp (k + 1) = (wz L fr fp to tp k, (gt L k).i)) := hid (by rw [HZ0.out, if_pos (of_decide_eq_true (by rw [← HCD.out]; simpa using hcp))])
            have hcd : decide (compZ (gt L k).i (gt L k).a (gt L k).f (gt L m).i (gt L m).a (gt L m).f to < 0) = true := by simpa using hcp
            clear HBS HZ0 hcp HCD
            go_wp2_with fail
            refine wp_region_noPanic ?_
            refine rgn.regionT (R := Only []) (by kernel_rfl) (Only.refl []) (fun _ _ _ => Only.trans) (fun _ _ _ _ _ h => h) (.y 0 (.y 1 (.y 2 (.y 3 (.e 4 (.y 5 (.y 6 (.y 7 (.y 8 (.y 9 (.y 10 (.y 11 (.y 12 (.y 13 (.y 14 (.y 15 (.y 16 (.e 17 (.y 18 (.y 19 (.y 20 .z))))))))))))))))))))) (by kernel_rfl) (fun W hWd => ?_)
            have HWd := hid hWd; clear hWd
            have HW := hid (HW.out.eq_drew HWd.out)
            have q0 := (Only.eq_drew (Only.refl [] wr) HWd.out).keep q0
            have q1 := (Only.eq_drew (Only.refl [] wr) HWd.out).keep q1
            have q2 := (Only.eq_drew (Only.refl [] wr) HWd.out).keep q2
            have q3 := (Only.eq_drew (Only.refl [] wr) HWd.out).keep q3
            have q4 := (Only.eq_drew (Only.refl [] wr) HWd.out).keep q4
            have d0 := (Only.eq_drew (Only.refl [] wr) HWd.out).keep d0
            have d1 := (Only.eq_drew (Only.refl [] wr) HWd.out).keep d1
            have d2 := (Only.eq_drew (Only.refl [] wr) HWd.out).keep d2
            have d3 := (Only.eq_drew (Only.refl [] wr) HWd.out).keep d3
            have d4 := (Only.eq_drew (Only.refl [] wr) HWd.out).keep d4
            have p0 := (Only.eq_drew (Only.refl [] wr) HWd.out).keep p0
            have p1 := (Only.eq_drew (Only.refl [] wr) HWd.out).keep p1
            have p2 := (Only.eq_drew (Only.refl [] wr) HWd.out).keep p2
            have p3 := (Only.eq_drew (Only.refl [] wr) HWd.out).keep p3
            have p4 := (Only.eq_drew (Only.refl [] wr) HWd.out).keep p4
            clear HWd
            refine rgn.Walk.ys (v := ?_) rfl rfl rfl ?_ ?_
            rotate_left 1
            · intro W' hW'
              go_simp
              try with_reducible rfl
            try simp only [Act.put, List.setIfInBounds_toArray, List.set_cons_zero, List.set_cons_succ]
            refine rgn.Walk.ys (v := ?_) rfl rfl rfl ?_ ?_
            rotate_left 1
            · intro W' hW'
              go_simp
              try with_reducible rfl
            try simp only [Act.put, List.setIfInBounds_toArray, List.set_cons_zero, List.set_cons_succ]
            refine rgn.Walk.ys (v := ?_) rfl rfl rfl ?_ ?_
            rotate_left 1
            · intro W' hW'
              have q0 := hW'.keep q0; have q1 := hW'.keep q1; have q2 := hW'.keep q2; have q3 := hW'.keep q3; have q4 := hW'.keep q4
              go_simp
              try with_reducible rfl
            try simp only [Act.put, List.setIfInBounds_toArray, List.set_cons_zero, List.set_cons_succ]
            refine rgn.Walk.ys (v := ?_) rfl rfl rfl ?_ ?_
            rotate_left 1
            · intro W' hW'
              have d0 := hW'.keep d0; have d1 := hW'.keep d1; have d2 := hW'.keep d2; have d3 := hW'.keep d3; have d4 := hW'.keep d4
              go_simp
              try with_reducible rfl
            try simp only [Act.put, List.setIfInBounds_toArray, List.set_cons_zero, List.set_cons_succ]
            refine rgn.Walk.es ?_
            refine rgn.stepE rfl rfl (fun K hK => ?_)
            go_simp
            refine (hearsL _ (gt L k).i (gt L k).p (gt L k).a (gt L k).e (gt L k).f fr fp to tp Ad nd cd).mono ?_
            rintro x w4 ⟨rfl, o4⟩
            rw [← HWZ.out, HC.out]
            refine hK _ _ o4 ?_
            clear hK K
            try simp only [Act.put, List.setIfInBounds_toArray, List.set_cons_zero, List.set_cons_succ]
            have HW := hid (HW.out.trans o4)
            have q0 := o4.keep q0
            have q1 := o4.keep q1
            have q2 := o4.keep q2
            have q3 := o4.keep q3
            have q4 := o4.keep q4
            have d0 := o4.keep d0
            have d1 := o4.keep d1
            have d2 := o4.keep d2
            have d3 := o4.keep d3
            have d4 := o4.keep d4
            have p0 := o4.keep p0
            have p1 := o4.keep p1
            have p2 := o4.keep p2
            have p3 := o4.keep p3
            have p4 := o4.keep p4
            clear o4
            refine rgn.Walk.ys (v := ?_) rfl rfl rfl ?_ ?_
            rotate_left 1
            · intro W' hW'
              go_simp
              try with_reducible rfl
            try simp only [Act.put, List.setIfInBounds_toArray, List.set_cons_zero, List.set_cons_succ]
            refine rgn.Walk.ys (v := ?_) rfl rfl rfl ?_ ?_
            rotate_left 1
            · intro W' hW'
              go_simp
              try with_reducible rfl
            try simp only [Act.put, List.setIfInBounds_toArray, List.set_cons_zero, List.set_cons_succ]
            refine rgn.Walk.ys (v := ?_) rfl rfl rfl ?_ ?_
            rotate_left 1
            · intro W' hW'
              go_simp
              try with_reducible rfl
            try simp only [Act.put, List.setIfInBounds_toArray, List.set_cons_zero, List.set_cons_succ]
            refine rgn.Walk.ys (v := ?_) rfl rfl rfl ?_ ?_
            rotate_left 1
            · intro W' hW'
              go_simp
              try with_reducible rfl
            try simp only [Act.put, List.setIfInBounds_toArray, List.set_cons_zero, List.set_cons_succ]
            refine rgn.Walk.ys (v := ?_) rfl rfl rfl ?_ ?_
            rotate_left 1
            · intro W' hW'
              go_simp
              try with_reducible rfl
            try simp only [Act.put, List.setIfInBounds_toArray, List.set_cons_zero, List.set_cons_succ]
            refine rgn.Walk.ys (v := ?_) rfl rfl rfl ?_ ?_
            rotate_left 1
            · intro W' hW'
              go_simp
              try with_reducible rfl
            try simp only [Act.put, List.setIfInBounds_toArray, List.set_cons_zero, List.set_cons_succ]
            refine rgn.Walk.ys (v := ?_) rfl rfl rfl ?_ ?_
            rotate_left 1
            · intro W' hW'
              have q0 := hW'.keep q0; have q1 := hW'.keep q1; have q2 := hW'.keep q2; have q3 := hW'.keep q3; have q4 := hW'.keep q4
              go_simp
              try with_reducible rfl
            try simp only [Act.put, List.setIfInBounds_toArray, List.set_cons_zero, List.set_cons_succ]
            refine rgn.Walk.ys (v := ?_) rfl rfl rfl ?_ ?_
            rotate_left 1
            · intro W' hW'
              go_simp
              try with_reducible rfl
            try simp only [Act.put, List.setIfInBounds_toArray, List.set_cons_zero, List.set_cons_succ]
            refine rgn.Walk.ys (v := ?_) rfl rfl rfl ?_ ?_
            rotate_left 1
            · intro W' hW'
              go_simp
              try with_reducible rfl
            try simp only [Act.put, List.setIfInBounds_toArray, List.set_cons_zero, List.set_cons_succ]
            refine rgn.Walk.ys (v := ?_) rfl rfl rfl ?_ ?_
            rotate_left 1
            · intro W' hW'
              have p0 := hW'.keep p0; have p1 := hW'.keep p1; have p2 := hW'.keep p2; have p3 := hW'.keep p3; have p4 := hW'.keep p4
              go_simp
              try with_reducible rfl
            try simp only [Act.put, List.setIfInBounds_toArray, List.set_cons_zero, List.set_cons_succ]
            refine rgn.Walk.ys (v := ?_) rfl rfl rfl ?_ ?_
            rotate_left 1
            · intro W' hW'
              go_simp
              try with_reducible rfl
            try simp only [Act.put, List.setIfInBounds_toArray, List.set_cons_zero, List.set_cons_succ]
            refine rgn.Walk.ys (v := ?_) rfl rfl rfl ?_ ?_
            rotate_left 1
            · intro W' hW'
              have d0 := hW'.keep d0; have d1 := hW'.keep d1; have d2 := hW'.keep d2; have d3 := hW'.keep d3; have d4 := hW'.keep d4
              go_simp
              try with_reducible rfl
            try simp only [Act.put, List.setIfInBounds_toArray, List.set_cons_zero, List.set_cons_succ]
            refine rgn.Walk.es ?_
            refine rgn.stepE rfl rfl (fun K hK => ?_)
            go_simp
            refine (compareL _ (gt L k).i (gt L k).a (gt L k).p (gt L k).e (gt L k).f (gt L m).i (gt L m).a (gt L m).p (gt L m).e (gt L m).f to).mono ?_
            rintro x w17 ⟨rfl, o17⟩
            refine hK _ _ o17 ?_
            clear hK K
            try simp only [Act.put, List.setIfInBounds_toArray, List.set_cons_zero, List.set_cons_succ]
            have HW := hid (HW.out.trans o17)
            have q0 := o17.keep q0
            have q1 := o17.keep q1
            have q2 := o17.keep q2
            have q3 := o17.keep q3
            have q4 := o17.keep q4
            have d0 := o17.keep d0
            have d1 := o17.keep d1
            have d2 := o17.keep d2
            have d3 := o17.keep d3
            have d4 := o17.keep d4
            have p0 := o17.keep p0
            have p1 := o17.keep p1
            have p2 := o17.keep p2
            have p3 := o17.keep p3
            have p4 := o17.keep p4
            clear o17
            refine rgn.Walk.ys (v := ?_) rfl rfl rfl ?_ ?_
            rotate_left 1
            · intro W' hW'
              go_simp
              try with_reducible rfl
            try simp only [Act.put, List.setIfInBounds_toArray, List.set_cons_zero, List.set_cons_succ]
            refine rgn.Walk.ys (v := ?_) rfl rfl rfl ?_ ?_
            rotate_left 1
            · intro W' hW'
              go_simp
              try with_reducible rfl
            try simp only [Act.put, List.setIfInBounds_toArray, List.set_cons_zero, List.set_cons_succ]
            refine rgn.Walk.ys (v := ?_) rfl rfl rfl ?_ ?_
            rotate_left 1
            · intro W' hW'
              go_simp
              try with_reducible rfl
            try simp only [Act.put, List.setIfInBounds_toArray, List.set_cons_zero, List.set_cons_succ]
            refine rgn.Walk.zs (NoPanic.normal ?_)
            clear q0 q1 q2 q3 q4 d0 d1 d2 d3 d4 p0 p1 p2 p3 p4
            go_wp2
            go_roundw
            case rel => exact ⟨k + 1, by omega, by go_num, hid (Bst.take HW9.out HN.out), HW⟩
            case measure => simp [RowKit.intOf]; omega
          · have HN : Hid (fnd L fr fp to tp (k + 1) = fnd L fr fp to tp k) := hid (by rw [HZ0.out, if_neg (of_decide_eq_false (by rw [← HCD.out]; simpa using hcp))])
            have hcd : decide (compZ (gt L k).i (gt L k).a (gt L k).f (gt L m).i (gt L m).a (gt L m).f to < 0) = false := by simpa using hcp
            clear HZ0 hcp HCD
            go_wp2_with fail
            refine wp_region_noPanic ?_
            refine rgn.regionT (R := Only []) (by kernel_rfl) (Only.refl []) (fun _ _ _ => Only.trans) (fun _ _ _ _ _ h => h) (.y 0 (.y 1 (.y 2 (.y 3 (.e 4 (.y 5 (.y 6 (.y 7 (.y 8 (.y 9 (.y 10 (.y 11 (.y 12 (.y 13 (.y 14 (.y 15 (.y 16 (.e 17 (.y 18 (.y 19 (.y 20 .z))))))))))))))))))))) (by kernel_rfl) (fun W hWd => ?_)
            have HWd := hid hWd; clear hWd
            have HW := hid (HW.out.eq_drew HWd.out)
            have q0 := (Only.eq_drew (Only.refl [] wr) HWd.out).keep q0
            have q1 := (Only.eq_drew (Only.refl [] wr) HWd.out).keep q1
            have q2 := (Only.eq_drew (Only.refl [] wr) HWd.out).keep q2
            have q3 := (Only.eq_drew (Only.refl [] wr) HWd.out).keep q3
            have q4 := (Only.eq_drew (Only.refl [] wr) HWd.out).keep q4
            have d0 := (Only.eq_drew (Only.refl [] wr) HWd.out).keep d0
            have d1 := (Only.eq_drew (Only.refl [] wr) HWd.out).keep d1
            have d2 := (Only.eq_drew (Only.refl [] wr) HWd.out).keep d2
            have d3 := (Only.eq_drew (Only.refl [] wr) HWd.out).keep d3
            have d4 := (Only.eq_drew (Only.refl [] wr) HWd.out).keep d4
            have p0 := (Only.eq_drew (Only.refl [] wr) HWd.out).keep p0
            have p1 := (Only.eq_drew (Only.refl [] wr) HWd.out).keep p1
            have p2 := (Only.eq_drew (Only.refl [] wr) HWd.out).keep p2
            have p3 := (Only.eq_drew (Only.refl [] wr) HWd.out).keep p3
            have p4 := (Only.eq_drew (Only.refl [] wr) HWd.out).keep p4
            clear HWd
            refine rgn.Walk.ys (v := ?_) rfl rfl rfl ?_ ?_
            rotate_left 1
            · intro W' hW'
              go_simp
              try with_reducible rfl
            try simp only [Act.put, List.setIfInBounds_toArray, List.set_cons_zero, List.set_cons_succ]
            refine rgn.Walk.ys (v := ?_) rfl rfl rfl ?_ ?_
            rotate_left 1
            · intro W' hW'
              go_simp
              try with_reducible rfl
            try simp only [Act.put, List.setIfInBounds_toArray, List.set_cons_zero, List.set_cons_succ]
            refine rgn.Walk.ys (v := ?_) rfl rfl rfl ?_ ?_
            rotate_left 1
            · intro W' hW'
              have q0 := hW'.keep q0; have q1 := hW'.keep q1; have q2 := hW'.keep q2; have q3 := hW'.keep q3; have q4 := hW'.keep q4
              go_simp
              try with_reducible rfl
            try simp only [Act.put, List.setIfInBounds_toArray, List.set_cons_zero, List.set_cons_succ]
            refine rgn.Walk.ys (v := ?_) rfl rfl rfl ?_ ?_
            rotate_left 1
            · intro W' hW'
              have d0 := hW'.keep d0; have d1 := hW'.keep d1; have d2 := hW'.keep d2; have d3 := hW'.keep d3; have d4 := hW'.keep d4
              go_simp
              try with_reducible rfl
            try simp only [Act.put, List.setIfInBounds_toArray, List.set_cons_zero, List.set_cons_succ]
            refine rgn.Walk.es ?_
            refine rgn.stepE rfl rfl (fun K hK => ?_)
            go_simp
            refine (hearsL _ (gt L k).i (gt L k).p (gt L k).a (gt L k).e (gt L k).f fr fp to tp Ad nd cd).mono ?_
            rintro x w4 ⟨rfl, o4⟩
            rw [← HWZ.out, HC.out]
            refine hK _ _ o4 ?_
            clear hK K
            try simp only [Act.put, List.setIfInBounds_toArray, List.set_cons_zero, List.set_cons_succ]
            have HW := hid (HW.out.trans o4)
            have q0 := o4.keep q0
            have q1 := o4.keep q1
            have q2 := o4.keep q2
            have q3 := o4.keep q3
            have q4 := o4.keep q4
            have d0 := o4.keep d0
            have d1 := o4.keep d1
            have d2 := o4.keep d2
            have d3 := o4.keep d3
            have d4 := o4.keep d4
            have p0 := o4.keep p0
            have p1 := o4.keep p1
            have p2 := o4.keep p2
            have p3 := o4.keep p3
            have p4 := o4.keep p4
            clear o4
            refine rgn.Walk.ys (v := ?_) rfl rfl rfl ?_ ?_
            rotate_left 1
            · intro W' hW'
              go_simp
              try with_reducible rfl
            try simp only [Act.put, List.setIfInBounds_toArray, List.set_cons_zero, List.set_cons_succ]
            refine rgn.Walk.ys (v := ?_) rfl rfl rfl ?_ ?_
            rotate_left 1
            · intro W' hW'
              go_simp
              try with_reducible rfl
            try simp only [Act.put, List.setIfInBounds_toArray, List.set_cons_zero, List.set_cons_succ]
            refine rgn.Walk.ys (v := ?_) rfl rfl rfl ?_ ?_
            rotate_left 1
            · intro W' hW'
              go_simp
              try with_reducible rfl
            try simp only [Act.put, List.setIfInBounds_toArray, List.set_cons_zero, List.set_cons_succ]
            refine rgn.Walk.ys (v := ?_) rfl rfl rfl ?_ ?_
            rotate_left 1
            · intro W' hW'
              go_simp
              try with_reducible rfl
            try simp only [Act.put, List.setIfInBounds_toArray, List.set_cons_zero, List.set_cons_succ]
            refine rgn.Walk.ys (v := ?_) rfl rfl rfl ?_ ?_
            rotate_left 1
            · intro W' hW'
              go_simp
              try with_reducible rfl
            try simp only [Act.put, List.setIfInBounds_toArray, List.set_cons_zero, List.set_cons_succ]
            refine rgn.Walk.ys (v := ?_) rfl rfl rfl ?_ ?_
            rotate_left 1
            · intro W' hW'
              go_simp
              try with_reducible rfl
            try simp only [Act.put, List.setIfInBounds_toArray, List.set_cons_zero, List.set_cons_succ]
            refine rgn.Walk.ys (v := ?_) rfl rfl rfl ?_ ?_
            rotate_left 1
            · intro W' hW'
              have q0 := hW'.keep q0; have q1 := hW'.keep q1; have q2 := hW'.keep q2; have q3 := hW'.keep q3; have q4 := hW'.keep q4
              go_simp
              try with_reducible rfl
            try simp only [Act.put, List.setIfInBounds_toArray, List.set_cons_zero, List.set_cons_succ]
            refine rgn.Walk.ys (v := ?_) rfl rfl rfl ?_ ?_
            rotate_left 1
            · intro W' hW'
              go_simp
              try with_reducible rfl
            try simp only [Act.put, List.setIfInBounds_toArray, List.set_cons_zero, List.set_cons_succ]
            refine rgn.Walk.ys (v := ?_) rfl rfl rfl ?_ ?_
            rotate_left 1
            · intro W' hW'
              go_simp
              try with_reducible rfl
            try simp only [Act.put, List.setIfInBounds_toArray, List.set_cons_zero, List.set_cons_succ]
            refine rgn.Walk.ys (v := ?_) rfl rfl rfl ?_ ?_
            rotate_left 1
            · intro W' hW'
              have p0 := hW'.keep p0; have p1 := hW'.keep p1; have p2 := hW'.keep p2; have p3 := hW'.keep p3; have p4 := hW'.keep p4
              go_simp
              try with_reducible rfl
            try simp only [Act.put, List.setIfInBounds_toArray, List.set_cons_zero, List.set_cons_succ]
            refine rgn.Walk.ys (v := ?_) rfl rfl rfl ?_ ?_
            rotate_left 1
            · intro W' hW'
              go_simp
              try with_reducible rfl
            try simp only [Act.put, List.setIfInBounds_toArray, List.set_cons_zero, List.set_cons_succ]
            refine rgn.Walk.ys (v := ?_) rfl rfl rfl ?_ ?_
            rotate_left 1
            · intro W' hW'
              have d0 := hW'.keep d0; have d1 := hW'.keep d1; have d2 := hW'.keep d2; have d3 := hW'.keep d3; have d4 := hW'.keep d4
              go_simp
              try with_reducible rfl
            try simp only [Act.put, List.setIfInBounds_toArray, List.set_cons_zero, List.set_cons_succ]
            refine rgn.Walk.es ?_
            refine rgn.stepE rfl rfl (fun K hK => ?_)
            go_simp
            refine (compareL _ (gt L k).i (gt L k).a (gt L k).p (gt L k).e (gt L k).f (gt L m).i (gt L m).a (gt L m).p (gt L m).e (gt L m).f to).mono ?_
            rintro x w17 ⟨rfl, o17⟩
            refine hK _ _ o17 ?_
            clear hK K
            try simp only [Act.put, List.setIfInBounds_toArray, List.set_cons_zero, List.set_cons_succ]
            have HW := hid (HW.out.trans o17)
            have q0 := o17.keep q0
            have q1 := o17.keep q1
            have q2 := o17.keep q2
            have q3 := o17.keep q3
            have q4 := o17.keep q4
            have d0 := o17.keep d0
            have d1 := o17.keep d1
            have d2 := o17.keep d2
            have d3 := o17.keep d3
            have d4 := o17.keep d4
            have p0 := o17.keep p0
            have p1 := o17.keep p1
            have p2 := o17.keep p2
            have p3 := o17.keep p3
            have p4 := o17.keep p4
            clear o17
            refine rgn.Walk.ys (v := ?_) rfl rfl rfl ?_ ?_
            rotate_left 1
            · intro W' hW'
              go_simp
              try with_reducible rfl
            try simp only [Act.put, List.setIfInBounds_toArray, List.set_cons_zero, List.set_cons_succ]
            refine rgn.Walk.ys (v := ?_) rfl rfl rfl ?_ ?_
            rotate_left 1
            · intro W' hW'
              go_simp
              try with_reducible rfl
            try simp only [Act.put, List.setIfInBounds_toArray, List.set_cons_zero, List.set_cons_succ]
            refine rgn.Walk.ys (v := ?_) rfl rfl rfl ?_ ?_
            rotate_left 1
            · intro W' hW'
              go_simp
              try with_reducible rfl
            try simp only [Act.put, List.setIfInBounds_toArray, List.set_cons_zero, List.set_cons_succ]
            refine rgn.Walk.zs (NoPanic.normal ?_)
            clear q0 q1 q2 q3 q4 d0 d1 d2 d3 d4 p0 p1 p2 p3 p4
            go_wp2
            go_roundw
            case rel => exact ⟨k + 1, by omega, by go_num, hid (HBS.out.keep HN.out), HW⟩
            case measure => simp [RowKit.intOf]; omega
      · have HC : Hid (decide (0 ≤ wz L fr fp to tp k) = false) := hid (by simpa using hw)
        have HN : Hid (fnd L fr fp to tp (k + 1) = fnd L fr fp to tp k) := hid (by
          rw [HZ0.out]
          refine if_neg (fun h => ?_)
          rcases HBS.out with ⟨e1, _⟩ | ⟨m, b', off', hm, eA, _, e1, e2, e3⟩
          · rw [e1] at h
            have hge : -1 ≤ wz L fr fp to tp k := by
              unfold wz worthZ
              repeat' split
              all_goals omega
            rcases h with h | h
            · have h : (-1 : Int) < _ := h
              omega
            · omega
          · omega)
        clear HZ0 hw
        go_wp2_with fail
        refine wp_region_noPanic ?_
        refine rgn.regionT (R := Only []) (by kernel_rfl) (Only.refl []) (fun _ _ _ => Only.trans) (fun _ _ _ _ _ h => h) (.y 0 (.y 1 (.y 2 (.y 3 (.e 4 (.y 5 (.y 6 (.y 7 (.y 8 (.y 9 (.y 10 (.y 11 (.y 12 (.y 13 (.y 14 (.y 15 (.y 16 (.e 17 (.y 18 (.y 19 (.y 20 .z))))))))))))))))))))) (by kernel_rfl) (fun W hWd => ?_)
        have HWd := hid hWd; clear hWd
        have HW := hid (HW.out.eq_drew HWd.out)
        have q0 := (Only.eq_drew (Only.refl [] wr) HWd.out).keep q0
        have q1 := (Only.eq_drew (Only.refl [] wr) HWd.out).keep q1
        have q2 := (Only.eq_drew (Only.refl [] wr) HWd.out).keep q2
        have q3 := (Only.eq_drew (Only.refl [] wr) HWd.out).keep q3
        have q4 := (Only.eq_drew (Only.refl [] wr) HWd.out).keep q4
        have d0 := (Only.eq_drew (Only.refl [] wr) HWd.out).keep d0
        have d1 := (Only.eq_drew (Only.refl [] wr) HWd.out).keep d1
        have d2 := (Only.eq_drew (Only.refl [] wr) HWd.out).keep d2
        have d3 := (Only.eq_drew (Only.refl [] wr) HWd.out).keep d3
        have d4 := (Only.eq_drew (Only.refl [] wr) HWd.out).keep d4
        clear HWd
        refine rgn.Walk.ys (v := ?_) rfl rfl rfl ?_ ?_
        rotate_left 1
        · intro W' hW'
          go_simp
          try with_reducible rfl
        try simp only [Act.put, List.setIfInBounds_toArray, List.set_cons_zero, List.set_cons_succ]
        refine rgn.Walk.ys (v := ?_) rfl rfl rfl ?_ ?_
        rotate_left 1
        · intro W' hW'
          go_simp
          try with_reducible rfl
        try simp only [Act.put, List.setIfInBounds_toArray, List.set_cons_zero, List.set_cons_succ]
        refine rgn.Walk.ys (v := ?_) rfl rfl rfl ?_ ?_
        rotate_left 1
        · intro W' hW'
          have q0 := hW'.keep q0; have q1 := hW'.keep q1; have q2 := hW'.keep q2; have q3 := hW'.keep q3; have q4 := hW'.keep q4
          go_simp
          try with_reducible rfl
        try simp only [Act.put, List.setIfInBounds_toArray, List.set_cons_zero, List.set_cons_succ]
        refine rgn.Walk.ys (v := ?_) rfl rfl rfl ?_ ?_
        rotate_left 1
        · intro W' hW'
          have d0 := hW'.keep d0; have d1 := hW'.keep d1; have d2 := hW'.keep d2; have d3 := hW'.keep d3; have d4 := hW'.keep d4
          go_simp
          try with_reducible rfl
        try simp only [Act.put, List.setIfInBounds_toArray, List.set_cons_zero, List.set_cons_succ]
        refine rgn.Walk.es ?_
        refine rgn.stepE rfl rfl (fun K hK => ?_)
        go_simp
        refine (hearsL _ (gt L k).i (gt L k).p (gt L k).a (gt L k).e (gt L k).f fr fp to tp Ad nd cd).mono ?_
        rintro x w4 ⟨rfl, o4⟩
        rw [← HWZ.out, HC.out]
        refine hK _ _ o4 ?_
        clear hK K
        try simp only [Act.put, List.setIfInBounds_toArray, List.set_cons_zero, List.set_cons_succ]
        have HW := hid (HW.out.trans o4)
        have q0 := o4.keep q0
        have q1 := o4.keep q1
        have q2 := o4.keep q2
        have q3 := o4.keep q3
        have q4 := o4.keep q4
        have d0 := o4.keep d0
        have d1 := o4.keep d1
        have d2 := o4.keep d2
        have d3 := o4.keep d3
        have d4 := o4.keep d4
        clear o4
        refine rgn.Walk.ys (v := ?_) rfl rfl rfl ?_ ?_
        rotate_left 1
        · intro W' hW'
          go_simp
          try with_reducible rfl
        try simp only [Act.put, List.setIfInBounds_toArray, List.set_cons_zero, List.set_cons_succ]
        refine rgn.Walk.yn rfl rfl rfl ?_
        try simp only [Act.put, List.setIfInBounds_toArray, List.set_cons_zero, List.set_cons_succ]
        refine rgn.Walk.yn rfl rfl rfl ?_
        try simp only [Act.put, List.setIfInBounds_toArray, List.set_cons_zero, List.set_cons_succ]
        refine rgn.Walk.yn rfl rfl rfl ?_
        try simp only [Act.put, List.setIfInBounds_toArray, List.set_cons_zero, List.set_cons_succ]
        refine rgn.Walk.yn rfl rfl rfl ?_
        try simp only [Act.put, List.setIfInBounds_toArray, List.set_cons_zero, List.set_cons_succ]
        refine rgn.Walk.yn rfl rfl rfl ?_
        try simp only [Act.put, List.setIfInBounds_toArray, List.set_cons_zero, List.set_cons_succ]
        refine rgn.Walk.yn rfl rfl rfl ?_
        try simp only [Act.put, List.setIfInBounds_toArray, List.set_cons_zero, List.set_cons_succ]
        refine rgn.Walk.yn rfl rfl rfl ?_
        try simp only [Act.put, List.setIfInBounds_toArray, List.set_cons_zero, List.set_cons_succ]
        refine rgn.Walk.yn rfl rfl rfl ?_
        try simp only [Act.put, List.setIfInBounds_toArray, List.set_cons_zero, List.set_cons_succ]
        refine rgn.Walk.yn rfl rfl rfl ?_
        try simp only [Act.put, List.setIfInBounds_toArray, List.set_cons_zero, List.set_cons_succ]
        refine rgn.Walk.yn rfl rfl rfl ?_
        try simp only [Act.put, List.setIfInBounds_toArray, List.set_cons_zero, List.set_cons_succ]
        refine rgn.Walk.yn rfl rfl rfl ?_
        try simp only [Act.put, List.setIfInBounds_toArray, List.set_cons_zero, List.set_cons_succ]
        refine rgn.Walk.es (rgn.stepN (Only.refl []) rfl rfl rfl ?_)
        try simp only [Act.put, List.setIfInBounds_toArray, List.set_cons_zero, List.set_cons_succ]
        refine rgn.Walk.yn rfl rfl rfl ?_
        try simp only [Act.put, List.setIfInBounds_toArray, List.set_cons_zero, List.set_cons_succ]
        refine rgn.Walk.yn rfl rfl rfl ?_
        try simp only [Act.put, List.setIfInBounds_toArray, List.set_cons_zero, List.set_cons_succ]
        refine rgn.Walk.ys (v := ?_) rfl rfl rfl ?_ ?_
        rotate_left 1
        · intro W' hW'
          go_simp
          try with_reducible rfl
        try simp only [Act.put, List.setIfInBounds_toArray, List.set_cons_zero, List.set_cons_succ]
        refine rgn.Walk.zs (NoPanic.normal ?_)
        clear q0 q1 q2 q3 q4 d0 d1 d2 d3 d4
        go_wp2
        go_roundw
        case rel => exact ⟨k + 1, by omega, by go_num, hid (HBS.out.keep HN.out), HW⟩
        case measure => simp [RowKit.intOf]; omega
    · obtain rfl : k = n := by omega
      rcases HBS.out with ⟨e1, rfl⟩ | ⟨m, b, off, hm, rfl, rfl, e1, e2, e3⟩
      · have HE := hid e1
        clear e1
        go_wp2
        go_ret2
        exact ⟨by rw [HE.out]; rfl, Q0.out.trans HW.out⟩
      · obtain ⟨b', off', eA, hb, hc⟩ := (HB.out.only_nil (Q0.out.trans HW.out)) (by omega)
        injection eA with eA; injection eA with eb eo
        subst eb eo
        obtain ⟨p0, p1, p2, p3, p4⟩ := hc m hm
        have HE : Hid ((fnd L fr fp to tp k).2 = (gt L m).i ∧ decide (0 ≤ (fnd L fr fp to tp k).1) = true) := hid ⟨e3, by rw [e1]; simpa using e2⟩
        clear e1 e2 e3 hc p1 p2 p3 p4
        go_wp2
        go_ret2
        exact ⟨by rw [HE.out.1, HE.out.2]; rfl, Q0.out.trans HW.out⟩
end Go.Proofs.Ytnhakcgkhhficaa.udp
/-
  Chapter 11 (udp): slices.Delete over a row of bindings, by a walk of its text. Conditions: none but those typed.
-/
namespace Go.Proofs.Ytnhakcgkhhficaa.udp
set_option linter.unusedVariables false
set_option linter.unusedSimpArgs false
open Go.ChangeShapes Go.WideShapes Go.ChangeAt Go.RowKit Go.IntWalk Go.Lib
theorem bndElem : ElemS Try.prog 54 74 (.agg #[.int .i64 0, .int .u32 0, .int .i64 0, .int .u32 0, .int .i64 0]) 5 40 := ⟨Try.underlying54, by kernel_rfl, rfl, by omega⟩
theorem bndElemZero (w : World) : (zeroValue 74).run Try.prog w = .ok (.agg #[.int .i64 0, .int .u32 0, .int .i64 0, .int .u32 0, .int .i64 0]) w := by kernel_rfl
set_option maxRecDepth 100000 in
set_option maxHeartbeats 2000000 in
theorem del1 (w : World) (b n cap i j : Nat) (cur : Array Value) (h : Ob w b 74 cur) (hij : i < j) (hjn : j ≤ n) (hnc : n ≤ cap) (hm : cap ≤ maxLen) (hs : cur.size = cap * 5) (h1 : ∀ u ∈ cur.toList.take (n * 5), u.oneCell' = true) :
    Calls Try.prog 36 #[.slice (some ⟨b, 0, none⟩) n cap, .int .i64 i, .int .i64 j] w fun x w' => x = .returned (.slice (some ⟨b, 0, none⟩) (i + (n - j)) cap) ∧ ∃ cur' : Array Value, Ob w' b 74 cur' ∧ cur'.size = cap * 5 ∧ cur'.toList.take ((i + (n - j)) * 5) = cur.toList.take (i * 5) ++ (cur.toList.take (n * 5)).drop (j * 5) ∧ Only [b] w w' := by
  have hcap : cap ≤ 9223372036854775807 := by unfold maxLen at hm; omega
  have hic : i ≤ cap := by omega
  have hjc : j ≤ cap := by omega
  have HQ : Hid (Only [b] w w) := hid (Only.refl _ _)
  have HS := hid hs
  have HO := hid h
  have hblt := h.lt
  have HR0 : RdS w (some ⟨b, 0, none⟩) n 5 (cur.toList.take (n * 5)) := ⟨by rw [List.length_take, Array.length_toList, hs]; exact Nat.min_eq_left (Nat.mul_le_mul_right _ hnc), h1, fun _ => ⟨b, 0, rfl, h.lt, fun t u hu => by
    rw [List.getElem?_take] at hu
    split at hu
    · rw [Nat.zero_add, h.cell]; simpa using hu
    · cases hu⟩⟩
  obtain ⟨A2, HA2, HR, HAS⟩ : ∃ A2 : Option Addr, Hid ((if cap = j then (some ⟨b, 0, none⟩ : Option Addr) else some ⟨b, 0 + j * 5, none⟩) = A2) ∧ Hid (RdS w A2 (n - j) 5 ((cur.toList.take (n * 5)).drop (j * 5))) ∧ Hid (∃ b off, A2 = some ⟨b, off, none⟩) := by
    by_cases hc : cap = j
    · exact ⟨_, hid (if_pos hc), hid (HR0.dropIf j hjn hnc (.inl ⟨rfl, hc⟩)), hid ⟨_, _, rfl⟩⟩
    · exact ⟨_, hid (if_neg hc), hid (HR0.dropIf j hjn hnc (.inr rfl)), hid ⟨_, _, rfl⟩⟩
  clear h hs h1 HR0
  go_enter Try.func36, Try.ntmps36
  go_wp2_with fail
  refine wp_region_noPanic ?_
  refine rgn.regionT (R := AnyW) (by kernel_rfl) (fun _ => AnyW.any _ _) (fun _ _ _ _ _ => AnyW.any _ _) (fun _ _ _ _ _ h => h) (.y 0 (.y 1 (.y 2 (.y 3 (.y 4 (.y 5 (.e 6 (.e 7 .z)))))))) (by kernel_rfl) (fun W hWd => ?_)
  have HWd := hid hWd; clear hWd
  have HR := hid (HR.out.only_nil (Only.eq_drew (Only.refl [] w) HWd.out)); have HO := hid (HO.out.eq_drew HWd.out); have HQ := hid (HQ.out.eq_drew HWd.out)
  have HSP := hid (HO.out.spare (0 + i * 5) ((n - j) * 5) (by rw [HS.out, Nat.zero_add]; exact mul_fit (by omega)))
  refine rgn.Walk.ys (v := ?_) rfl rfl rfl ?_ ?_
  rotate_left 1
  · intro W' hW'
    go_simp
    try with_reducible rfl
  try simp only [Act.put, List.setIfInBounds_toArray, List.set_cons_zero, List.set_cons_succ]
  refine rgn.Walk.ys (v := ?_) rfl rfl rfl ?_ ?_
  rotate_left 1
  · intro W' hW'
    go_simp
    try with_reducible rfl
  try simp only [Act.put, List.setIfInBounds_toArray, List.set_cons_zero, List.set_cons_succ]
  refine rgn.Walk.ys (v := ?_) rfl rfl rfl ?_ ?_
  rotate_left 1
  · intro W' hW'
    go_simp
    try with_reducible rfl
  try simp only [Act.put, List.setIfInBounds_toArray, List.set_cons_zero, List.set_cons_succ]
  refine rgn.Walk.ys (v := ?_) rfl rfl rfl ?_ ?_
  rotate_left 1
  · intro W' hW'
    go_simp
    try with_reducible rfl
  try simp only [Act.put, List.setIfInBounds_toArray, List.set_cons_zero, List.set_cons_succ]
  refine rgn.Walk.ys (v := ?_) rfl rfl rfl ?_ ?_
  rotate_left 1
  · intro W' hW'
    go_simp
    try with_reducible rfl
  try simp only [Act.put, List.setIfInBounds_toArray, List.set_cons_zero, List.set_cons_succ]
  refine rgn.Walk.ys (v := ?_) rfl rfl rfl ?_ ?_
  rotate_left 1
  · intro W' hW'
    go_simp
    try with_reducible rfl
  try simp only [Act.put, List.setIfInBounds_toArray, List.set_cons_zero, List.set_cons_succ]
  refine rgn.Walk.es ?_
  refine rgn.stepE rfl rfl (fun K hK => ?_)
  refine opAppRoom rfl (.tmp 22) (.tmp 25) _ rfl bndElem b 0 i cap (by go_simp) A2 (n - j) (cap - j) ((cur.toList.take (n * 5)).drop (j * 5)) (by rw [← HA2.out]; go_simp) HAS.out HR.out (by omega) HSP.out ?_
  refine hK _ _ (AnyW.any _ _) ?_
  clear hK K
  try simp only [Act.put, List.setIfInBounds_toArray, List.set_cons_zero, List.set_cons_succ]
  refine rgn.Walk.es ?_
  refine rgn.stepE rfl rfl (fun K hK => ?_)
  go_simp
  refine hK _ _ ((fun _ => AnyW.any _ _) _) ?_
  clear hK K
  try simp only [Act.put, List.setIfInBounds_toArray, List.set_cons_zero, List.set_cons_succ]
  refine rgn.Walk.zs (NoPanic.normal ?_)
  obtain ⟨W1, hW1⟩ : ∃ W1, W1 = W.setCells b (i * 5) ((cur.toList.take (n * 5)).drop (j * 5)) := ⟨_, rfl⟩
  rw [← hW1]
  have hsz := HS.out
  have hnl : ((cur.toList.take (n * 5)).drop (j * 5)).length = (n - j) * 5 := HR.out.len
  have hfit : i * 5 + (n - j) * 5 ≤ cap * 5 := mul_fit (by omega)
  have HO1 := hid (show Ob W1 b 74 _ from by rw [hW1]; exact HO.out.spl _ (i * 5) (by rw [hnl]; omega))
  have HQ1 := hid (show Only [b] w W1 from by rw [hW1]; exact Only.setAll (.inl (by simp)) _ _ _ HQ.out)
  have hlo : (cur.toList.take (i * 5)).length = i * 5 := by rw [List.length_take, Array.length_toList, hsz]; exact Nat.min_eq_left (Nat.mul_le_mul_right _ (by omega))
  have HS1 : Hid ((cur.toList.take (i * 5) ++ (cur.toList.take (n * 5)).drop (j * 5) ++ cur.toList.drop (i * 5 + ((cur.toList.take (n * 5)).drop (j * 5)).length)).toArray.size = cap * 5) := hid (by
    simp only [List.size_toArray, List.length_append, hlo, hnl, List.length_drop, Array.length_toList, hsz]
    omega)
  have HT1 : Hid ((cur.toList.take (i * 5) ++ (cur.toList.take (n * 5)).drop (j * 5) ++ cur.toList.drop (i * 5 + ((cur.toList.take (n * 5)).drop (j * 5)).length)).toArray.toList.take ((i + (n - j)) * 5) = cur.toList.take (i * 5) ++ (cur.toList.take (n * 5)).drop (j * 5)) := hid (by
    rw [show ((i + (n - j)) * 5) = (cur.toList.take (i * 5) ++ (cur.toList.take (n * 5)).drop (j * 5)).length from by rw [List.length_append, hlo, hnl, Nat.add_mul]]
    exact List.take_left)
  generalize (cur.toList.take (i * 5) ++ (cur.toList.take (n * 5)).drop (j * 5) ++ cur.toList.drop (i * 5 + ((cur.toList.take (n * 5)).drop (j * 5)).length)).toArray = cur1 at *
  clear HO HQ HSP HAS HA2 HR hW1 hnl hlo hfit hsz HWd
  have hpos : 0 < n - (i + (n - j)) := by omega
  have hz5 : ((.agg #[.int .i64 0, .int .u32 0, .int .i64 0, .int .u32 0, .int .i64 0]) : Value).cells.size = 5 := rfl
  obtain ⟨news2, hn2, hcl⟩ := run_clear_wide (P := Try.prog) W1 54 74 0 (.agg #[.int .i64 0, .int .u32 0, .int .i64 0, .int .u32 0, .int .i64 0]) Try.underlying54 (bndElemZero W1) (by decide) b ((i + (n - j)) * 5) (n - (i + (n - j))) (cap - (i + (n - j))) hpos
    (fun t ht => (HO1.out.spare _ _ (by rw [HS1.out]; have h2 := mul_fit (s := 5) (show i + (n - j) + (n - (i + (n - j))) ≤ cap by omega); exact h2) t ht).1) (fun t ht => HO1.out.frozen _)
  rw [hz5] at hn2
  have hfit2 : (i + (n - j)) * 5 + news2.length ≤ cur1.size := by rw [hn2, HS1.out]; exact mul_fit (by omega)
  have hlt2 : (cur1.toList.take ((i + (n - j)) * 5)).length = (i + (n - j)) * 5 := by rw [List.length_take, Array.length_toList]; exact Nat.min_eq_left (by omega)
  have HF : Hid (∃ cur' : Array Value, Ob (W1.setCells b ((i + (n - j)) * 5) news2) b 74 cur' ∧ cur'.size = cap * 5 ∧ cur'.toList.take ((i + (n - j)) * 5) = cur.toList.take (i * 5) ++ (cur.toList.take (n * 5)).drop (j * 5) ∧ Only [b] w (W1.setCells b ((i + (n - j)) * 5) news2)) := hid (by
    refine ⟨_, HO1.out.spl news2 _ hfit2, ?_, ?_, Only.setAll (.inl (by simp)) _ _ _ HQ1.out⟩
    · simp only [List.size_toArray, List.length_append, hlt2, List.length_drop, Array.length_toList]
      rw [← HS1.out]; omega
    · rw [← HT1.out]
      show List.take ((i + (n - j)) * 5) (cur1.toList.take ((i + (n - j)) * 5) ++ news2 ++ _) = _
      rw [List.append_assoc]
      have h9 := List.take_left (l₁ := cur1.toList.take ((i + (n - j)) * 5)) (l₂ := news2 ++ List.drop ((i + (n - j)) * 5 + news2.length) cur1.toList)
      rw [hlt2] at h9
      exact h9)
  clear hn2 hz5 hfit2 hlt2 HO1 HS1 HT1 HQ1
  go_wp2
  all_goals go_ret
  all_goals first | exact ⟨rfl, HF.out⟩ | (have h9 := HF.out; rw [‹cap = j›] at h9; exact ⟨rfl, h9⟩)
end Go.Proofs.Ytnhakcgkhhficaa.udp
