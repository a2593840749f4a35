/-
  Chapter 9 (icmp): messages there and back, the law by a walk of its text. Conditions: none but those typed.
-/
import Derived.Test.YtekanilgeigddaaIcmH
import Derived.Test.YtekanilgeigddaaIcmJ
import Derived.Test.YtekanilgeigddaaTrn
import Derived.Outline
namespace Go.Proofs.Ytekanilgeigddaa.icm
set_option linter.unusedVariables false
set_option linter.unusedSimpArgs false
open Go.ChangeShapes Go.WideShapes Go.ChangeAt Go.RowKit Go.IntWalk Go.Lib
theorem decOf_enc (ty co re : Int) (l : List Int) (h1 : 0 ≤ ty ∧ ty ≤ 255) (h2 : 0 ≤ co ∧ co ≤ 255) (h3 : 0 ≤ re ∧ re ≤ 4294967295) (h : ∀ z ∈ l, (Lit.int .u8 z).wf = true) : DecOf (enc ty co re l) ty co re l 0 := by
  have := DecOf.ok (l := enc ty co re l) (by rw [enc_len]; omega) (enc_sum ty co re l h)
  have e0 : (enc ty co re l).getD 0 0 = ty := by unfold enc; simp [msg]; omega
  have e1 : (enc ty co re l).getD 1 0 = co := by unfold enc; simp [msg]; omega
  have e4 : ref.get4 (enc ty co re l) 4 = re := by unfold enc ref.get4; simp [msg]; omega
  have e8 : (enc ty co re l).drop 8 = l := by unfold enc; simp [msg]
  rw [e0, e1, e4, e8] at this
  exact this
theorem decOf_bad (l : List Int) (hl : 8 ≤ l.length) (h : oct.sumF l ≠ 0) : DecOf l 0 0 0 [] 4 := .sum hl h
theorem backOut (w : World) (ty co re at' y : Int) (A : Option Addr) (n c : Nat) (hn : ¬ n ≤ 4000) :
    Calls Try.prog 5 #[.agg #[.int .i64 ty, .int .i64 co, .int .u32 re, .slice A n c], .int .i64 at', .int .u8 y] w fun x w' => x = .returned (.bool true) ∧ Only [] w w' := by
  have h : 4000 < n := by omega
  go_enter Try.func5, Try.ntmps5
  go_wp2
  go_ret
  exact ⟨rfl, (Only.refl [] w).alloc _⟩
set_option maxHeartbeats 2000000 in
theorem backErr (w : World) (ty co re at' y er : Int) (A : Option Addr) (n c : Nat) (l : List Int) (hl : Rd .u8 w A n l) (hc0 : A = none → c = 0) (hn : n ≤ 4000) (hE : EncOf ty co re n l [] er) (her : er ≠ 0) :
    Calls Try.prog 5 #[.agg #[.int .i64 ty, .int .i64 co, .int .u32 re, .slice A n c], .int .i64 at', .int .u8 y] w fun x w' => x = .returned (.bool true) ∧ Only [] w w' := by
  have HL := hid hl; clear hl
  have HC := hid hc0; clear hc0
  have HE := hid hE; clear hE
  have e1 : (er != 0) = true := by simpa using her
  have QB : Hid (Only [] w (w.alloc (.cells #[.int .i64 ty, .int .i64 co, .int .u32 re, .slice A n c] 25))) := hid ((Only.refl [] w).alloc _)
  clear her
  go_enter Try.func5, Try.ntmps5
  go_wp2_with fail
  refine (encAny _ ty co re A n c l [] er (HL.out.only_nil QB.out) HC.out HE.out).mono ?_
  rintro x w2 ⟨v2, rfl, hb, o2⟩
  obtain ⟨A2, cap2, ev2, _, _, hr2, _⟩ := hb.slice
  have Q2 := hid (QB.out.trans o2); clear hb hr2 o2
  subst ev2
  simp only [List.length_nil]
  go_wp2_with fail
  refine (known _).mono ?_
  rintro x w6 ⟨rfl, o6⟩
  have Q6 := hid (Q2.out.trans o6); clear o6
  go_wp2
  go_ret
  exact ⟨rfl, Q6.out⟩
set_option maxHeartbeats 4000000 in
theorem backOk (w : World) (ty co re at' y : Int) (A : Option Addr) (n c i0 : Nat) (l : List Int) (hl : Rd .u8 w A n l) (hc0 : A = none → c = 0) (hn : n ≤ 4000) (h1 : 0 ≤ ty ∧ ty ≤ 255) (h2 : 0 ≤ co ∧ co ≤ 255) (h3 : 0 ≤ re ∧ re ≤ 4294967295) (hy : 0 ≤ y ∧ y ≤ 255) (hi0 : i0 < n + 8)
    (hr : at'.tmod ((n : Int) + 8) = (i0 : Int) ∨ (at'.tmod ((n : Int) + 8) = (i0 : Int) - ((n : Int) + 8))) :
    Calls Try.prog 5 #[.agg #[.int .i64 ty, .int .i64 co, .int .u32 re, .slice A n c], .int .i64 at', .int .u8 y] w fun x w' => x = .returned (.bool true) ∧ Only [] w w' := by
  have HWF := hid hl.wf
  have HLen := hid hl.len
  have HL := hid hl; clear hl
  have HC := hid hc0; clear hc0
  have HE : Hid (EncOf ty co re n l (enc ty co re l) 0) := hid (.ok ⟨h1.1, h1.2, h2.1, h2.2⟩ (by omega))
  have HD : Hid (DecOf (enc ty co re l) ty co re l 0) := hid (decOf_enc ty co re l h1 h2 h3 HWF.out)
  have HS : Hid (oct.sumF (enc ty co re l) = 0) := hid (enc_sum ty co re l HWF.out)
  have HEL : Hid ((enc ty co re l).length = n + 8) := hid (by rw [enc_len, HLen.out]; omega)
  generalize hen : enc ty co re l = en at *
  clear hen
  have OB : Hid (Ob (w.alloc (.cells #[.int .i64 ty, .int .i64 co, .int .u32 re, .slice A n c] 25)) w.heap.size 25 #[.int .i64 ty, .int .i64 co, .int .u32 re, .slice A n c]) := hid (Ob.new _ _ _)
  have QB : Hid (Only [] w (w.alloc (.cells #[.int .i64 ty, .int .i64 co, .int .u32 re, .slice A n c] 25))) := hid ((Only.refl [] w).alloc _)
  have HR := hid hr; clear hr
  go_enter Try.func5, Try.ntmps5
  go_wp2_with fail
  refine (encAny _ ty co re A n c l en 0 (HL.out.only_nil QB.out) HC.out HE.out).mono ?_
  rintro x w2 ⟨v2, rfl, hb, o2⟩
  obtain ⟨g, cap, e2⟩ := hb.some_form (by rw [HEL.out]; omega)
  rw [HEL.out] at e2
  subst e2
  have hlow : w.heap.size + 1 ≤ g := by simpa using hb.base_le.1
  have HB := hid hb; have OB := hid (OB.out.only o2 (by simp)); have QB := hid (QB.out.trans o2); clear hb o2
  go_wp2_with fail
  refine (decAny _ (some ⟨g, 0, none⟩) (n + 8) cap en ty co re l 0 HB.out.rd (by simp) (by omega) HD.out).mono ?_
  rintro x w3 ⟨v3, rfl, hv, o3⟩
  obtain ⟨A3, cap3, ev3, _, _, hr3, _⟩ := hv.slice
  rw [HLen.out] at ev3
  subst ev3
  have R3 := hid hr3
  have HB := hid (HB.out.only_nil o3); have OB := hid (OB.out.only o3 (by simp)); have QB := hid (QB.out.trans o3); clear hv o3 hr3
  have k0 := OB.out.cell 0
  have k1 := OB.out.cell 1
  have k2 := OB.out.cell 2
  have k3 := OB.out.cell 3
  have hlt3 := OB.out.lt
  go_wp2_with fail
  clear k0 k1 k2 k3
  refine (messages1 _ ty co re A A3 n c n cap3 l (by exact (HL.out.only_nil QB.out).alloc _) (by have := R3.out.alloc (.cells #[.int .i64 ty, .int .i64 co, .int .u32 re, .slice A3 n cap3] 25); rw [HLen.out] at this; exact this) (by omega) (by omega)).mono ?_
  rintro x w4 ⟨rfl, o4⟩
  have o4' : Only [] w3 w4 := ((Only.refl [] w3).alloc _).trans o4
  have HB := hid (HB.out.only_nil o4'); have QB := hid (QB.out.trans o4'); clear o4 o4'
  have hx := u8Bd (HB.out.rd.getD_wf i0 hi0)
  have c0 := HB.out.cellD i0 hi0
  have f0 := HB.out.frozen i0
  have HG : Hid (∀ v, 0 ≤ v ∧ v ≤ 255 → v ≠ en.getD i0 0 → oct.sumF (en.set i0 v) ≠ 0) := hid (fun v hv hne => oct.sum_turned en i0 v (fun z hz => u8Bd (HB.out.2 z hz)) (by rw [HEL.out]; exact hi0) HS.out hv hne)
  generalize en.getD i0 0 = xb at *
  have hi1 : (i0 : Int) < (n : Int) + 8 := by omega
  have hnz : ¬ (n : Int) + 8 = 0 := by omega
  rcases HR.out with hr | hr
  · by_cases hy0 : y = 0
    · subst hy0
      have hxr := oct.xor_ne xb 1 hx (by omega) (by omega)
      have HV : Hid (0 ≤ bits .xor .u8 xb 1 ∧ bits .xor .u8 xb 1 ≤ 255) := hid ⟨hxr.1, hxr.2.1⟩
      have HN := hid (HG.out (bits .xor .u8 xb 1) ⟨hxr.1, hxr.2.1⟩ hxr.2.2)
      clear hxr
      go_wp2_with fail
      generalize bits .xor .u8 xb 1 = vb at *
      have HB2 := hid (HB.out.set i0 vb (hlp.u8wf HV.out))
      have QB2 := hid (QB.out.setCell (p := ⟨g, i0, none⟩) (Or.inr (by simp; omega)) (.int .u8 vb))
      refine (decAny _ (some ⟨g, 0, none⟩) (n + 8) cap (en.set i0 vb) 0 0 0 [] 4 (by exact HB2.out.rd) (by simp) (by omega) (decOf_bad _ (by rw [List.length_set, HEL.out]; omega) HN.out)).mono ?_
      rintro x w5 ⟨v5, rfl, hv, o5⟩
      obtain ⟨A5, cap5, ev5, _, _, _, _⟩ := hv.slice
      subst ev5
      have Q5 := hid ((QB2.out.trans o5).alloc (.cells #[.int .i64 0, .int .i64 0, .int .u32 0, .slice A5 ([] : List Int).length cap5] 25)); clear hv o5
      go_wp2_with fail
      refine (known _).mono ?_
      rintro x w6 ⟨rfl, o6⟩
      have Q6 := hid (Q5.out.trans o6); clear o6
      go_wp2
      go_ret
      exact ⟨rfl, Q6.out⟩
    · have hyb : (y == 0) = false := by simpa using hy0
      have hxr := oct.xor_ne xb y hx (by omega) (by omega)
      have HV : Hid (0 ≤ bits .xor .u8 xb y ∧ bits .xor .u8 xb y ≤ 255) := hid ⟨hxr.1, hxr.2.1⟩
      have HN := hid (HG.out (bits .xor .u8 xb y) ⟨hxr.1, hxr.2.1⟩ hxr.2.2)
      clear hxr
      go_wp2_with fail
      generalize bits .xor .u8 xb y = vb at *
      have HB2 := hid (HB.out.set i0 vb (hlp.u8wf HV.out))
      have QB2 := hid (QB.out.setCell (p := ⟨g, i0, none⟩) (Or.inr (by simp; omega)) (.int .u8 vb))
      refine (decAny _ (some ⟨g, 0, none⟩) (n + 8) cap (en.set i0 vb) 0 0 0 [] 4 (by exact HB2.out.rd) (by simp) (by omega) (decOf_bad _ (by rw [List.length_set, HEL.out]; omega) HN.out)).mono ?_
      rintro x w5 ⟨v5, rfl, hv, o5⟩
      obtain ⟨A5, cap5, ev5, _, _, _, _⟩ := hv.slice
      subst ev5
      have Q5 := hid ((QB2.out.trans o5).alloc (.cells #[.int .i64 0, .int .i64 0, .int .u32 0, .slice A5 ([] : List Int).length cap5] 25)); clear hv o5
      go_wp2_with fail
      refine (known _).mono ?_
      rintro x w6 ⟨rfl, o6⟩
      have Q6 := hid (Q5.out.trans o6); clear o6
      go_wp2
      go_ret
      exact ⟨rfl, Q6.out⟩
  · have hneg : (i0 : Int) - ((n : Int) + 8) < 0 := by omega
    by_cases hy0 : y = 0
    · subst hy0
      have hxr := oct.xor_ne xb 1 hx (by omega) (by omega)
      have HV : Hid (0 ≤ bits .xor .u8 xb 1 ∧ bits .xor .u8 xb 1 ≤ 255) := hid ⟨hxr.1, hxr.2.1⟩
      have HN := hid (HG.out (bits .xor .u8 xb 1) ⟨hxr.1, hxr.2.1⟩ hxr.2.2)
      clear hxr
      go_wp2_with fail
      generalize bits .xor .u8 xb 1 = vb at *
      have HB2 := hid (HB.out.set i0 vb (hlp.u8wf HV.out))
      have QB2 := hid (QB.out.setCell (p := ⟨g, i0, none⟩) (Or.inr (by simp; omega)) (.int .u8 vb))
      refine (decAny _ (some ⟨g, 0, none⟩) (n + 8) cap (en.set i0 vb) 0 0 0 [] 4 (by exact HB2.out.rd) (by simp) (by omega) (decOf_bad _ (by rw [List.length_set, HEL.out]; omega) HN.out)).mono ?_
      rintro x w5 ⟨v5, rfl, hv, o5⟩
      obtain ⟨A5, cap5, ev5, _, _, _, _⟩ := hv.slice
      subst ev5
      have Q5 := hid ((QB2.out.trans o5).alloc (.cells #[.int .i64 0, .int .i64 0, .int .u32 0, .slice A5 ([] : List Int).length cap5] 25)); clear hv o5
      go_wp2_with fail
      refine (known _).mono ?_
      rintro x w6 ⟨rfl, o6⟩
      have Q6 := hid (Q5.out.trans o6); clear o6
      go_wp2
      go_ret
      exact ⟨rfl, Q6.out⟩
    · have hyb : (y == 0) = false := by simpa using hy0
      have hxr := oct.xor_ne xb y hx (by omega) (by omega)
      have HV : Hid (0 ≤ bits .xor .u8 xb y ∧ bits .xor .u8 xb y ≤ 255) := hid ⟨hxr.1, hxr.2.1⟩
      have HN := hid (HG.out (bits .xor .u8 xb y) ⟨hxr.1, hxr.2.1⟩ hxr.2.2)
      clear hxr
      go_wp2_with fail
      generalize bits .xor .u8 xb y = vb at *
      have HB2 := hid (HB.out.set i0 vb (hlp.u8wf HV.out))
      have QB2 := hid (QB.out.setCell (p := ⟨g, i0, none⟩) (Or.inr (by simp; omega)) (.int .u8 vb))
      refine (decAny _ (some ⟨g, 0, none⟩) (n + 8) cap (en.set i0 vb) 0 0 0 [] 4 (by exact HB2.out.rd) (by simp) (by omega) (decOf_bad _ (by rw [List.length_set, HEL.out]; omega) HN.out)).mono ?_
      rintro x w5 ⟨v5, rfl, hv, o5⟩
      obtain ⟨A5, cap5, ev5, _, _, _, _⟩ := hv.slice
      subst ev5
      have Q5 := hid ((QB2.out.trans o5).alloc (.cells #[.int .i64 0, .int .i64 0, .int .u32 0, .slice A5 ([] : List Int).length cap5] 25)); clear hv o5
      go_wp2_with fail
      refine (known _).mono ?_
      rintro x w6 ⟨rfl, o6⟩
      have Q6 := hid (Q5.out.trans o6); clear o6
      go_wp2
      go_ret
      exact ⟨rfl, Q6.out⟩
theorem back (w : World) (ty co re at' y : Int) (A : Option Addr) (n c : Nat) (l : List Int) (hl : Rd .u8 w A n l) (hc0 : A = none → c = 0) (h3 : 0 ≤ re ∧ re ≤ 4294967295) (hy : 0 ≤ y ∧ y ≤ 255) :
    Calls Try.prog 5 #[.agg #[.int .i64 ty, .int .i64 co, .int .u32 re, .slice A n c], .int .i64 at', .int .u8 y] w fun x w' => x = .returned (.bool true) ∧ Only [] w w' := by
  by_cases hn : n ≤ 4000
  · by_cases h : 0 ≤ ty ∧ ty ≤ 255 ∧ 0 ≤ co ∧ co ≤ 255
    · have hb := Int.tmod_lt_of_pos at' (show (0 : Int) < (n : Int) + 8 by omega)
      have hb2 : -((n : Int) + 8) < at'.tmod ((n : Int) + 8) := by
        have := Int.tmod_lt_of_pos (-at') (show (0 : Int) < (n : Int) + 8 by omega)
        rw [Int.neg_tmod] at this
        omega
      by_cases hp : 0 ≤ at'.tmod ((n : Int) + 8)
      · exact backOk w ty co re at' y A n c (at'.tmod ((n : Int) + 8)).toNat l hl hc0 hn ⟨h.1, h.2.1⟩ h.2.2 h3 hy (by omega) (.inl (by omega))
      · exact backOk w ty co re at' y A n c (at'.tmod ((n : Int) + 8) + ((n : Int) + 8)).toNat l hl hc0 hn ⟨h.1, h.2.1⟩ h.2.2 h3 hy (by omega) (.inr (by omega))
    · exact backErr w ty co re at' y 1 A n c l hl hc0 hn (.bad (by omega)) (by decide)
  · exact backOut w ty co re at' y A n c hn
end Go.Proofs.Ytekanilgeigddaa.icm
