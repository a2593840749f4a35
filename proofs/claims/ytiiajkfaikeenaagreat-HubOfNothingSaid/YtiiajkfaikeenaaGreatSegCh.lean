/-
  Chapter 14 (segment): the sum of a segment, and the errors of Encode, by a walk of each text. Conditions: none but those typed.
-/
import Derived.Test.YtiiajkfaikeenaaGreatSegBh
namespace Go.Proofs.YtiiajkfaikeenaaGreat.seg
set_option linter.unusedVariables false
set_option linter.unusedSimpArgs false
open Go.ChangeShapes Go.WideShapes Go.ChangeAt Go.RowKit Go.IntWalk Go.Lib
/-- What is summed ahead of a segment. -/
def psd (fr to pr nn : Int) : List Int :=
  [fr / 16777216 % 256, fr / 65536 % 256, fr / 256 % 256, fr % 256, to / 16777216 % 256, to / 65536 % 256, to / 256 % 256, to % 256, pr / 256 % 256, pr % 256, nn / 256 % 256, nn % 256]
set_option maxHeartbeats 4000000 in
theorem sums1 (w : World) (fr to : Int) (A : Option Addr) (n c : Nat) (l : List Int) (hl : Rd .u8 w A n l) (hc0 : A = none → c = 0) (hn : n ≤ 100000) :
    Calls Tryz.prog 68 #[.int .u32 fr, .int .u32 to, .slice A n c] w fun x w' => x = .returned (.int .i64 (oct.sumF (psd fr to 6 n ++ l))) ∧ Only [] w w' := by
  have HLen := hid hl.len
  have HL := hid hl; clear hl
  have HC := hid hc0; clear hc0
  have W : Hid (wrt.Wr (w.alloc (.cells #[.slice none 0 0] 153)) w.heap.size w.heap.size (.slice none 0 0) []) := hid ⟨Ob.new _ _ _, Own.nil _ _ _ _, Nat.le_refl _⟩
  have B : Hid (Below w.heap.size w (w.alloc (.cells #[.slice none 0 0] 153))) := hid ((Below.refl _ _).alloc (Nat.le_refl _) _)
  go_enter Tryz.func68, Tryz.ntmps68
  go_wp2_with fail
  refine (wrt.four1 _ _ _ _ _ fr W.out (by simp; try omega)).mono ?_
  rintro x w2 ⟨rfl, b2, v2, h2⟩
  have B := hid (B.out.trans b2); have W := hid h2; clear b2 h2
  go_wp2_with fail
  refine (wrt.four1 _ _ _ _ _ to W.out (by simp; try omega)).mono ?_
  rintro x w3 ⟨rfl, b3, v3, h3⟩
  have B := hid (B.out.trans b3); have W := hid h3; clear b3 h3
  go_wp2_with fail
  refine (wrt.two1 _ _ _ _ _ 6 W.out (by simp; try omega)).mono ?_
  rintro x w4 ⟨rfl, b4, v4, h4⟩
  have B := hid (B.out.trans b4); have W := hid h4; clear b4 h4
  go_wp2_with fail
  refine (wrt.two1 _ _ _ _ _ n W.out (by simp; try omega)).mono ?_
  rintro x w5 ⟨rfl, b5, v5, h5⟩
  have B := hid (B.out.trans b5); have W := hid h5; clear b5 h5
  go_wp2_with fail
  refine (wrt.raw1 _ _ _ _ _ A n c l W.out (by simp; try omega) (HL.out.below B.out (Nat.le_refl _)) HC.out (by omega)).mono ?_
  rintro x w6 ⟨rfl, b6, v6, h6⟩
  have B := hid (B.out.trans b6); have W := hid h6; clear b6 h6
  go_wp2_with fail
  refine (wrt.bytes1 _ _ _ _ _ W.out (by simp [HLen.out]; omega)).mono ?_
  rintro x w20 ⟨v20, rfl, hv, o20⟩
  have Q := hid (only_below' (Only.refl [] w) B.out (Nat.le_refl _))
  have Q2 := hid (Q.out.trans o20)
  have h9 : Own .u8 5 w20 w6.heap.size v20 (psd fr to 6 n ++ l) := by simpa [psd] using hv
  obtain ⟨A20, cap20, ev20, _, _, hr20, _⟩ := h9.slice
  have R20 := hid hr20
  have hpl : (psd fr to 6 n ++ l).length = 12 + n := by simp [psd, HLen.out]; omega
  have HPL := hid hpl; clear hpl
  clear hv o20 h9 hr20
  subst ev20
  generalize hps : psd fr to 6 n ++ l = ps at *
  have HPS := hid hps; clear hps
  go_wp2_with fail
  refine (oct.sum1 _ A20 _ cap20 ps R20.out (by rw [HPL.out]; omega)).mono ?_
  rintro x w21 ⟨rfl, m21, rfl⟩
  go_wp2
  go_ret
  exact ⟨rInt (by rw [HPS.out]), Q2.out.drewN _⟩
/-- The numbers of a segment that serve. -/
def Good (fp tp fl wi ms sc : Int) : Prop := (0 ≤ fp ∧ fp ≤ 65535) ∧ (0 ≤ tp ∧ tp ≤ 65535) ∧ (0 ≤ wi ∧ wi ≤ 65535) ∧ (0 ≤ ms ∧ ms ≤ 65535) ∧ (0 ≤ fl ∧ fl ≤ 63) ∧ (-1 ≤ sc ∧ sc ≤ 14)
instance (fp tp fl wi ms sc : Int) : Decidable (Good fp tp fl wi ms sc) := by unfold Good; infer_instance
/-- The error of a segment that is to be written. -/
def chk (fp tp fl wi ms sc : Int) (n : Nat) : Int := if Good fp tp fl wi ms sc then (if 65495 < n + (opt ms sc).length then 5 else 0) else 1
set_option maxHeartbeats 4000000 in
theorem check1 (w : World) (fr to sq ac : Int) (fp tp fl wi ms sc : Int) (A : Option Addr) (n c : Nat) :
    Calls Tryz.prog 66 #[.agg #[.int .u32 fr, .int .i64 fp, .int .u32 to, .int .i64 tp, .int .u32 sq, .int .u32 ac, .int .i64 fl, .int .i64 wi, .int .i64 ms, .int .i64 sc, .slice A n c]] w fun x w' => x = .returned (.int .i64 (chk fp tp fl wi ms sc n)) ∧ Only [] w w' := by
  have i0 : ∀ w, (Instr.index 150 (.agg #[.int .i64 fp, .int .i64 tp, .int .i64 wi, .int .i64 ms]) (.int .i64 0)).run Tryz.prog w = .ok (.int .i64 fp) w := fun _ => by kernel_rfl
  have i1 : ∀ w, (Instr.index 150 (.agg #[.int .i64 fp, .int .i64 tp, .int .i64 wi, .int .i64 ms]) (.int .i64 1)).run Tryz.prog w = .ok (.int .i64 tp) w := fun _ => by kernel_rfl
  have i2 : ∀ w, (Instr.index 150 (.agg #[.int .i64 fp, .int .i64 tp, .int .i64 wi, .int .i64 ms]) (.int .i64 2)).run Tryz.prog w = .ok (.int .i64 wi) w := fun _ => by kernel_rfl
  have i3 : ∀ w, (Instr.index 150 (.agg #[.int .i64 fp, .int .i64 tp, .int .i64 wi, .int .i64 ms]) (.int .i64 3)).run Tryz.prog w = .ok (.int .i64 ms) w := fun _ => by kernel_rfl
  go_enter Tryz.func66, Tryz.ntmps66
  have HBad : Hid (¬ Good fp tp fl wi ms sc → (1 : Int) = chk fp tp fl wi ms sc n) := hid (fun h => by unfold chk; rw [if_neg h])
  have HGood : Hid (Good fp tp fl wi ms sc → chk fp tp fl wi ms sc n = if 65495 < n + (opt ms sc).length then 5 else 0) := hid (fun h => by unfold chk; rw [if_pos h])
  have QB : Hid (Only [] w (w.alloc (.cells #[.int .u32 fr, .int .i64 fp, .int .u32 to, .int .i64 tp, .int .u32 sq, .int .u32 ac, .int .i64 fl, .int .i64 wi, .int .i64 ms, .int .i64 sc, .slice A n c] 28))) := hid ((Only.refl [] w).alloc _)
  have OB : Hid (Ob (w.alloc (.cells #[.int .u32 fr, .int .i64 fp, .int .u32 to, .int .i64 tp, .int .u32 sq, .int .u32 ac, .int .i64 fl, .int .i64 wi, .int .i64 ms, .int .i64 sc, .slice A n c] 28)) w.heap.size 28 #[.int .u32 fr, .int .i64 fp, .int .u32 to, .int .i64 tp, .int .u32 sq, .int .u32 ac, .int .i64 fl, .int .i64 wi, .int .i64 ms, .int .i64 sc, .slice A n c]) := hid (Ob.new _ _ _)
  go_wp2_with fail
  go_loop [14] (fun i => i = .int .i64 0 ∨ (i = .int .i64 1 ∧ 0 ≤ fp ∧ fp ≤ 65535) ∨ (i = .int .i64 2 ∧ 0 ≤ fp ∧ fp ≤ 65535 ∧ 0 ≤ tp ∧ tp ≤ 65535) ∨ (i = .int .i64 3 ∧ 0 ≤ fp ∧ fp ≤ 65535 ∧ 0 ≤ tp ∧ tp ≤ 65535 ∧ 0 ≤ wi ∧ wi ≤ 65535) ∨ (i = .int .i64 4 ∧ 0 ≤ fp ∧ fp ≤ 65535 ∧ 0 ≤ tp ∧ tp ≤ 65535 ∧ 0 ≤ wi ∧ wi ≤ 65535 ∧ 0 ≤ ms ∧ ms ≤ 65535)) (fun i => (4 - intOf i).toNat)
  case atStart => exact .inl rfl
  case round =>
    rcases hrel with rfl | ⟨rfl, h1⟩ | ⟨rfl, h1⟩ | ⟨rfl, h1⟩ | ⟨rfl, h1⟩
    · by_cases hx : fp < 0
      · have d1 : decide (fp < 0) = true := by simpa using hx
        have hr := hid (HBad.out (by unfold Good; omega))
        go_wp2
        go_ret
        exact ⟨rInt hr.out, QB.out⟩
      · have d1 : decide (fp < 0) = false := by simpa using hx
        by_cases hy : 65535 < fp
        · have d2 : decide (65535 < fp) = true := by simpa using hy
          have hr := hid (HBad.out (by unfold Good; omega))
          go_wp2
          go_ret
          exact ⟨rInt hr.out, QB.out⟩
        · have d2 : decide (65535 < fp) = false := by simpa using hy
          go_wp2
          go_round
          case rel => exact .inr (.inl ⟨rfl, by omega⟩)
          case measure => simp [intOf]
    · by_cases hx : tp < 0
      · have d1 : decide (tp < 0) = true := by simpa using hx
        have hr := hid (HBad.out (by unfold Good; omega))
        go_wp2
        go_ret
        exact ⟨rInt hr.out, QB.out⟩
      · have d1 : decide (tp < 0) = false := by simpa using hx
        by_cases hy : 65535 < tp
        · have d2 : decide (65535 < tp) = true := by simpa using hy
          have hr := hid (HBad.out (by unfold Good; omega))
          go_wp2
          go_ret
          exact ⟨rInt hr.out, QB.out⟩
        · have d2 : decide (65535 < tp) = false := by simpa using hy
          go_wp2
          go_round
          case rel => exact .inr (.inr (.inl ⟨rfl, by omega⟩))
          case measure => simp [intOf]
    · by_cases hx : wi < 0
      · have d1 : decide (wi < 0) = true := by simpa using hx
        have hr := hid (HBad.out (by unfold Good; omega))
        go_wp2
        go_ret
        exact ⟨rInt hr.out, QB.out⟩
      · have d1 : decide (wi < 0) = false := by simpa using hx
        by_cases hy : 65535 < wi
        · have d2 : decide (65535 < wi) = true := by simpa using hy
          have hr := hid (HBad.out (by unfold Good; omega))
          go_wp2
          go_ret
          exact ⟨rInt hr.out, QB.out⟩
        · have d2 : decide (65535 < wi) = false := by simpa using hy
          go_wp2
          go_round
          case rel => exact .inr (.inr (.inr (.inl ⟨rfl, by omega⟩)))
          case measure => simp [intOf]
    · by_cases hx : ms < 0
      · have d1 : decide (ms < 0) = true := by simpa using hx
        have hr := hid (HBad.out (by unfold Good; omega))
        go_wp2
        go_ret
        exact ⟨rInt hr.out, QB.out⟩
      · have d1 : decide (ms < 0) = false := by simpa using hx
        by_cases hy : 65535 < ms
        · have d2 : decide (65535 < ms) = true := by simpa using hy
          have hr := hid (HBad.out (by unfold Good; omega))
          go_wp2
          go_ret
          exact ⟨rInt hr.out, QB.out⟩
        · have d2 : decide (65535 < ms) = false := by simpa using hy
          go_wp2
          go_round
          case rel => exact .inr (.inr (.inr (.inr (⟨rfl, by omega⟩))))
          case measure => simp [intOf]
    · by_cases hf : 0 ≤ fl ∧ fl ≤ 63 ∧ -1 ≤ sc ∧ sc ≤ 14
      · have d1 : decide (fl < 0) = false := by simp; omega
        have d2 : decide (63 < fl) = false := by simp; omega
        have d3 : decide (sc < -1) = false := by simp; omega
        have d4 : decide (14 < sc) = false := by simp; omega
        have hr := HGood.out (by unfold Good; omega)
        have HR := hid hr
        clear hr
        have ho8 := opt_len ms sc
        have z9 : IntKind.i64.wrap (65495 - ((opt ms sc).length : Int)) = 65495 - ((opt ms sc).length : Int) := i64_in _ (by omega)
        have z8 : wrap64 (65495 - ((opt ms sc).length : Int)) = 65495 - ((opt ms sc).length : Int) := wrap64_in _ (by omega)
        go_wp2_with fail
        go_region_held3 (fun w' => w'.cell? ⟨w.heap.size, 0, none⟩ = some (.int .u32 fr) ∧ w'.cell? ⟨w.heap.size, 1, none⟩ = some (.int .i64 fp) ∧ w'.cell? ⟨w.heap.size, 2, none⟩ = some (.int .u32 to) ∧ w'.cell? ⟨w.heap.size, 3, none⟩ = some (.int .i64 tp) ∧ w'.cell? ⟨w.heap.size, 4, none⟩ = some (.int .u32 sq) ∧ w'.cell? ⟨w.heap.size, 5, none⟩ = some (.int .u32 ac) ∧ w'.cell? ⟨w.heap.size, 6, none⟩ = some (.int .i64 fl) ∧ w'.cell? ⟨w.heap.size, 7, none⟩ = some (.int .i64 wi) ∧ w'.cell? ⟨w.heap.size, 8, none⟩ = some (.int .i64 ms) ∧ w'.cell? ⟨w.heap.size, 9, none⟩ = some (.int .i64 sc) ∧ w'.cell? ⟨w.heap.size, 10, none⟩ = some (.slice A n c)) (go_keep) (first
          | (go_at_call 93; refine (opts1 _ fr to sq ac fp tp fl wi ms sc A n c).mono ?_; rintro x w1 ⟨vo, rfl, ho, o1⟩; obtain ⟨Ao, co, evo, _, _, _, _⟩ := ho.slice; have OB := hid (Ob.only OB.out.drew o1 (by simp)); have QB := hid (QB.out.drew.trans o1); clear ho o1; subst evo; have k0 := OB.out.cell 0; have k1 := OB.out.cell 1; have k2 := OB.out.cell 2; have k3 := OB.out.cell 3; have k4 := OB.out.cell 4; have k5 := OB.out.cell 5; have k6 := OB.out.cell 6; have k7 := OB.out.cell 7; have k8 := OB.out.cell 8; have k9 := OB.out.cell 9; have k10 := OB.out.cell 10))
        clear k0 k1 k2 k3 k4 k5 k6 k7 k8 k9 k10 z9 z8
        generalize hol : (opt ms sc).length = ol at *
        have HOL := hid hol; clear hol
        by_cases hL : 65495 < n + ol
        · have HF : Hid ((5 : Int) = chk fp tp fl wi ms sc n) := hid (by rw [HR.out, if_pos hL])
          have h9 : (65495 : Int) - (ol : Int) < (n : Int) := by omega
          have d9 : decide ((65495 : Int) - (ol : Int) < (n : Int)) = true := by simpa using h9
          go_wp2
          go_ret
          exact ⟨rInt HF.out, QB.out⟩
        · have HF : Hid ((0 : Int) = chk fp tp fl wi ms sc n) := hid (by rw [HR.out, if_neg hL])
          have h9 : (n : Int) ≤ (65495 : Int) - (ol : Int) := by omega
          have d9 : decide ((65495 : Int) - (ol : Int) < (n : Int)) = false := by simp; omega
          go_wp2
          go_ret
          exact ⟨rInt HF.out, QB.out⟩
      · have hr := hid (HBad.out (by unfold Good; omega))
        by_cases h2 : fl < 0
        · go_wp2
          go_ret
          exact ⟨rInt hr.out, QB.out⟩
        · by_cases h3 : 63 < fl
          · go_wp2
            go_ret
            exact ⟨rInt hr.out, QB.out⟩
          · have d1 : decide (fl < 0) = false := by simp; omega
            have d2 : decide (63 < fl) = false := by simp; omega
            by_cases h4 : sc < -1
            · have d3 : decide (sc < -1) = true := by simpa using h4
              go_wp2
              go_ret
              exact ⟨rInt hr.out, QB.out⟩
            · have d3 : decide (sc < -1) = false := by simp; omega
              have d4 : decide (14 < sc) = true := by simp; omega
              have h5 : 14 < sc := by omega
              clear hf
              go_wp2
              go_ret
              exact ⟨rInt hr.out, QB.out⟩
end Go.Proofs.YtiiajkfaikeenaaGreat.seg
