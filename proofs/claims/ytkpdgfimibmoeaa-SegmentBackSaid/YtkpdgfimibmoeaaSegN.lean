/-
  Chapter 14 (segment): a segment of which one byte is turned into another, the law, by a walk of its text. Conditions: none but those typed.
-/
import Derived.Test.YtkpdgfimibmoeaaSegM
namespace Go.Proofs.Ytkpdgfimibmoeaa.seg
set_option linter.unusedVariables false
set_option linter.unusedSimpArgs false
open Go.ChangeShapes Go.WideShapes Go.ChangeAt Go.RowKit Go.IntWalk Go.Lib
theorem opt_wf (ms sc : Int) : ∀ z ∈ opt ms sc, (Lit.int .u8 z).wf = true := by
  intro z hz
  apply hlp.u8wf
  unfold opt at hz
  split at hz <;> split at hz <;> simp at hz <;> omega
theorem F_zero (S : Int) (h : 0 ≤ S) : 65535 - oct.F (S + (65535 - oct.F S)) = 0 := by unfold oct.F; omega
theorem ws_body (fp tp sq ac fl wi s : Int) (o l : List Int) (hs : 0 ≤ s ∧ s ≤ 65535) : oct.ws (body fp tp sq ac fl wi s o l) = oct.ws (body fp tp sq ac fl wi 0 o l) + s := by
  unfold body
  simp only [oct.ws]
  omega
/-- What Encode writes sums up to nothing. -/
theorem enc_sum (fr to sq ac fp tp fl wi ms sc : Int) (l : List Int) (hl : ∀ z ∈ l, (Lit.int .u8 z).wf = true) (n : Nat) (hn : n = (encB fr to sq ac fp tp fl wi ms sc l).length) :
    oct.sumF (psd fr to 6 n ++ encB fr to sq ac fp tp fl wi ms sc l) = 0 := by
  subst hn
  rw [encB_len]
  have hwf := body_wf fp tp sq ac fl wi 0 (opt ms sc) l (opt_wf ms sc) hl
  have h0 : 0 ≤ oct.ws (psd fr to 6 ((20 + (opt ms sc).length + l.length : Nat) : Int) ++ body fp tp sq ac fl wi 0 (opt ms sc) l) := (oct.ws_bd _ (fun z hz => by
    rcases List.mem_append.1 hz with h | h
    · simp [psd] at h; omega
    · exact u8Bd (hwf z h))).1
  unfold encB sumS
  unfold oct.sumF
  have hb := oct.F_bd _ h0
  rw [oct.ws_app _ _ (by simp [psd]), ws_body _ _ _ _ _ _ _ _ _ (by omega), ← Int.add_assoc, ← oct.ws_app _ _ (by simp [psd])]
  exact F_zero _ h0
theorem turned_sum (fr to : Int) (n : Nat) (e : List Int) (i : Nat) (v : Int) (he : ∀ z ∈ e, 0 ≤ z ∧ z ≤ 255) (hi : i < e.length) (h0 : oct.sumF (psd fr to 6 n ++ e) = 0) (hv : 0 ≤ v ∧ v ≤ 255) (hne : v ≠ e.getD i 0) :
    oct.sumF (psd fr to 6 n ++ e.set i v) ≠ 0 := by
  have h := oct.sum_turned (psd fr to 6 n ++ e) (12 + i) v (fun z hz => by
    rcases List.mem_append.1 hz with h | h
    · simp [psd] at h; omega
    · exact he z h) (by simp [psd]; omega) h0 hv (by
      rw [List.getD_eq_getElem?_getD, List.getElem?_append_right (by simp [psd])]
      rw [List.getD_eq_getElem?_getD] at hne
      simpa [psd] using hne)
  rw [List.set_append_right _ _ (by simp [psd])] at h
  simpa [psd] using h
set_option maxHeartbeats 8000000 in
theorem turnedOut (w : World) (fr to sq ac : Int) (fp tp fl wi ms sc : Int) (A : Option Addr) (n c : Nat) (at' y : Int) (hn : ¬ n ≤ 2000) :
    Calls Try.prog 7 #[.agg #[.int .u32 fr, .int .i64 fp, .int .u32 to, .int .i64 tp, .int .u32 sq, .int .u32 ac, .int .i64 fl, .int .i64 wi, .int .i64 ms, .int .i64 sc, .slice A n c], .int .i64 at', .int .u8 y] w fun x w' => x = .returned (.bool true) ∧ Only [] w w' := by
  have h : 2000 < n := by omega
  go_enter Try.func7, Try.ntmps7
  go_wp2
  go_ret
  exact ⟨rfl, (Only.refl [] w).alloc _⟩
set_option maxHeartbeats 8000000 in
theorem turnedBad (w : World) (fr to sq ac : Int) (fp tp fl wi ms sc : Int) (A : Option Addr) (n c : Nat) (at' y : Int) (hn : n ≤ 2000) (h : chk fp tp fl wi ms sc n ≠ 0) :
    Calls Try.prog 7 #[.agg #[.int .u32 fr, .int .i64 fp, .int .u32 to, .int .i64 tp, .int .u32 sq, .int .u32 ac, .int .i64 fl, .int .i64 wi, .int .i64 ms, .int .i64 sc, .slice A n c], .int .i64 at', .int .u8 y] w fun x w' => x = .returned (.bool true) ∧ Only [] w w' := by
  have OB : Hid (Ob (w.alloc (.cells #[.int .u32 fr, .int .i64 fp, .int .u32 to, .int .i64 tp, .int .u32 sq, .int .u32 ac, .int .i64 fl, .int .i64 wi, .int .i64 ms, .int .i64 sc, .slice A n c] 26)) w.heap.size 26 #[.int .u32 fr, .int .i64 fp, .int .u32 to, .int .i64 tp, .int .u32 sq, .int .u32 ac, .int .i64 fl, .int .i64 wi, .int .i64 ms, .int .i64 sc, .slice A n c]) := hid (Ob.new _ _ _)
  have QB : Hid (Only [] w (w.alloc (.cells #[.int .u32 fr, .int .i64 fp, .int .u32 to, .int .i64 tp, .int .u32 sq, .int .u32 ac, .int .i64 fl, .int .i64 wi, .int .i64 ms, .int .i64 sc, .slice A n c] 26))) := hid ((Only.refl [] w).alloc _)
  have d1 : (chk fp tp fl wi ms sc n != 0) = true := by simpa using h
  have HD := hid d1; have HD2 := hid h; clear d1 h
  go_enter Try.func7, Try.ntmps7
  go_wp2_with fail
  refine (encE _ fr to sq ac fp tp fl wi ms sc A n c HD2.out).mono ?_
  rintro x w2 ⟨rfl, o2⟩
  have QB := hid (QB.out.trans o2); clear o2
  have d1 := HD.out
  generalize chk fp tp fl wi ms sc n = er at *
  go_wp2_with fail
  refine (known _).mono ?_
  rintro x w3 ⟨rfl, o3⟩
  have QB := hid (QB.out.trans o3); clear o3
  go_wp2
  go_ret
  exact ⟨rfl, QB.out⟩
set_option maxHeartbeats 8000000 in
theorem turnedOk (w : World) (fr to sq ac : Int) (fp tp fl wi ms sc : Int) (A : Option Addr) (n c : Nat) (at' y : Int) (i0 L : Nat) (l : List Int) (hl : Rd .u8 w A n l) (hc0 : A = none → c = 0) (hn : n ≤ 2000) (h : chk fp tp fl wi ms sc n = 0) (hL : L = 20 + (opt ms sc).length + n) (hy : 0 ≤ y ∧ y ≤ 255) (hi0 : i0 < L) (hr : at'.tmod (L : Int) = (i0 : Int) ∨ at'.tmod (L : Int) = (i0 : Int) - (L : Int)) :
    Calls Try.prog 7 #[.agg #[.int .u32 fr, .int .i64 fp, .int .u32 to, .int .i64 tp, .int .u32 sq, .int .u32 ac, .int .i64 fl, .int .i64 wi, .int .i64 ms, .int .i64 sc, .slice A n c], .int .i64 at', .int .u8 y] w fun x w' => x = .returned (.bool true) ∧ Only [] w w' := by
  have OB : Hid (Ob (w.alloc (.cells #[.int .u32 fr, .int .i64 fp, .int .u32 to, .int .i64 tp, .int .u32 sq, .int .u32 ac, .int .i64 fl, .int .i64 wi, .int .i64 ms, .int .i64 sc, .slice A n c] 26)) w.heap.size 26 #[.int .u32 fr, .int .i64 fp, .int .u32 to, .int .i64 tp, .int .u32 sq, .int .u32 ac, .int .i64 fl, .int .i64 wi, .int .i64 ms, .int .i64 sc, .slice A n c]) := hid (Ob.new _ _ _)
  have QB : Hid (Only [] w (w.alloc (.cells #[.int .u32 fr, .int .i64 fp, .int .u32 to, .int .i64 tp, .int .u32 sq, .int .u32 ac, .int .i64 fl, .int .i64 wi, .int .i64 ms, .int .i64 sc, .slice A n c] 26))) := hid ((Only.refl [] w).alloc _)
  have HLen := hid hl.len
  have HS : Hid (oct.sumF (psd fr to 6 L ++ encB fr to sq ac fp tp fl wi ms sc l) = 0) := hid (enc_sum fr to sq ac fp tp fl wi ms sc l hl.wf L (by rw [encB_len, hL, hl.len]))
  have HEL : Hid ((encB fr to sq ac fp tp fl wi ms sc l).length = L) := hid (by rw [encB_len, hL, hl.len])
  have HO := hid (opt_len ms sc)
  have hL1 : 20 ≤ L := by omega
  have hL2 : L ≤ 2028 := by have := HO.out; omega
  have HL := hid hl; clear hl
  have HC := hid hc0; clear hc0
  have HD := hid h; clear h hL
  have HR := hid hr; clear hr
  go_enter Try.func7, Try.ntmps7
  go_wp2_with fail
  refine (enc1 _ fr to sq ac fp tp fl wi ms sc A n c l (HL.out.only_nil QB.out) HC.out (by omega) HD.out).mono ?_
  rintro x w2 ⟨v2, rfl, hb, o2⟩
  generalize encB fr to sq ac fp tp fl wi ms sc l = en at *
  obtain ⟨g, cap, e2⟩ := hb.some_form (by rw [HEL.out]; omega)
  rw [HEL.out] at e2
  subst e2
  have hlow : w.heap.size + 1 ≤ g := by simpa using hb.base_le.1
  have HB := hid hb; have OB := hid (OB.out.only o2 (by simp)); have QB := hid (QB.out.trans o2); clear hb o2
  have hx := u8Bd (HB.out.rd.getD_wf i0 hi0)
  have c0 := HB.out.cellD i0 hi0
  have f0 := HB.out.frozen i0
  have HG : Hid (∀ v, 0 ≤ v ∧ v ≤ 255 → v ≠ en.getD i0 0 → oct.sumF (psd fr to 6 L ++ en.set i0 v) ≠ 0) := hid (fun v hv hne => turned_sum fr to L en i0 v (fun z hz => u8Bd (HB.out.2 z hz)) (by rw [HEL.out]; exact hi0) HS.out hv hne)
  generalize en.getD i0 0 = xb at *
  have hi1 : (i0 : Int) < (L : Int) := by omega
  have hnz : ¬ (L : Int) = 0 := by omega
  have hge : ¬ (L : Int) < 20 := by omega
  have hgn : ¬ w.heap.size = g := by omega
  have k0 := OB.out.cell 0; have k2 := OB.out.cell 2
  rcases HR.out with hr | hr
  · by_cases hy0 : y = 0
    · subst hy0
      have hxr := oct.xor_ne xb 1 hx (by omega) (by omega)
      have HV : Hid (0 ≤ bits .xor .u8 xb 1 ∧ bits .xor .u8 xb 1 ≤ 255) := hid ⟨hxr.1, hxr.2.1⟩
      have HN := hid (HG.out (bits .xor .u8 xb 1) ⟨hxr.1, hxr.2.1⟩ hxr.2.2)
      clear hxr
      go_wp2_with fail
      generalize bits .xor .u8 xb 1 = vb at *
      have HB2 := hid (HB.out.set i0 vb (hlp.u8wf HV.out))
      have QB2 := hid (QB.out.setCell (p := ⟨g, i0, none⟩) (Or.inr (by simp; omega)) (.int .u8 vb))
      refine (decBad _ fr to (some ⟨g, 0, none⟩) L cap (en.set i0 vb) HB2.out.rd (by simp) (by omega) HN.out).mono ?_
      rintro x w5 ⟨rfl, o5⟩
      have hde := dErr_ne L ((en.set i0 vb).getD 12 0)
      generalize dErr L ((en.set i0 vb).getD 12 0) = er at *
      have e1 : (er != 0) = true := by simpa using hde
      have Q5 := hid ((QB2.out.trans o5).alloc (.cells #[.int .u32 0, .int .i64 0, .int .u32 0, .int .i64 0, .int .u32 0, .int .u32 0, .int .i64 0, .int .i64 0, .int .i64 0, .int .i64 0, .slice none 0 0] 26)); clear o5 hde
      go_wp2_with fail
      refine (known _).mono ?_
      rintro x w6 ⟨rfl, o6⟩
      have Q6 := hid (Q5.out.trans o6); clear o6
      go_wp2
      go_ret
      exact ⟨rfl, Q6.out⟩
    · have hyb : (y == 0) = false := by simpa using hy0
      have hxr := oct.xor_ne xb y hx (by omega) (by omega)
      have HV : Hid (0 ≤ bits .xor .u8 xb y ∧ bits .xor .u8 xb y ≤ 255) := hid ⟨hxr.1, hxr.2.1⟩
      have HN := hid (HG.out (bits .xor .u8 xb y) ⟨hxr.1, hxr.2.1⟩ hxr.2.2)
      clear hxr
      go_wp2_with fail
      generalize bits .xor .u8 xb y = vb at *
      have HB2 := hid (HB.out.set i0 vb (hlp.u8wf HV.out))
      have QB2 := hid (QB.out.setCell (p := ⟨g, i0, none⟩) (Or.inr (by simp; omega)) (.int .u8 vb))
      refine (decBad _ fr to (some ⟨g, 0, none⟩) L cap (en.set i0 vb) HB2.out.rd (by simp) (by omega) HN.out).mono ?_
      rintro x w5 ⟨rfl, o5⟩
      have hde := dErr_ne L ((en.set i0 vb).getD 12 0)
      generalize dErr L ((en.set i0 vb).getD 12 0) = er at *
      have e1 : (er != 0) = true := by simpa using hde
      have Q5 := hid ((QB2.out.trans o5).alloc (.cells #[.int .u32 0, .int .i64 0, .int .u32 0, .int .i64 0, .int .u32 0, .int .u32 0, .int .i64 0, .int .i64 0, .int .i64 0, .int .i64 0, .slice none 0 0] 26)); clear o5 hde
      go_wp2_with fail
      refine (known _).mono ?_
      rintro x w6 ⟨rfl, o6⟩
      have Q6 := hid (Q5.out.trans o6); clear o6
      go_wp2
      go_ret
      exact ⟨rfl, Q6.out⟩
  · have hneg : (i0 : Int) - (L : Int) < 0 := by omega
    by_cases hy0 : y = 0
    · subst hy0
      have hxr := oct.xor_ne xb 1 hx (by omega) (by omega)
      have HV : Hid (0 ≤ bits .xor .u8 xb 1 ∧ bits .xor .u8 xb 1 ≤ 255) := hid ⟨hxr.1, hxr.2.1⟩
      have HN := hid (HG.out (bits .xor .u8 xb 1) ⟨hxr.1, hxr.2.1⟩ hxr.2.2)
      clear hxr
      go_wp2_with fail
      generalize bits .xor .u8 xb 1 = vb at *
      have HB2 := hid (HB.out.set i0 vb (hlp.u8wf HV.out))
      have QB2 := hid (QB.out.setCell (p := ⟨g, i0, none⟩) (Or.inr (by simp; omega)) (.int .u8 vb))
      refine (decBad _ fr to (some ⟨g, 0, none⟩) L cap (en.set i0 vb) HB2.out.rd (by simp) (by omega) HN.out).mono ?_
      rintro x w5 ⟨rfl, o5⟩
      have hde := dErr_ne L ((en.set i0 vb).getD 12 0)
      generalize dErr L ((en.set i0 vb).getD 12 0) = er at *
      have e1 : (er != 0) = true := by simpa using hde
      have Q5 := hid ((QB2.out.trans o5).alloc (.cells #[.int .u32 0, .int .i64 0, .int .u32 0, .int .i64 0, .int .u32 0, .int .u32 0, .int .i64 0, .int .i64 0, .int .i64 0, .int .i64 0, .slice none 0 0] 26)); clear o5 hde
      go_wp2_with fail
      refine (known _).mono ?_
      rintro x w6 ⟨rfl, o6⟩
      have Q6 := hid (Q5.out.trans o6); clear o6
      go_wp2
      go_ret
      exact ⟨rfl, Q6.out⟩
    · have hyb : (y == 0) = false := by simpa using hy0
      have hxr := oct.xor_ne xb y hx (by omega) (by omega)
      have HV : Hid (0 ≤ bits .xor .u8 xb y ∧ bits .xor .u8 xb y ≤ 255) := hid ⟨hxr.1, hxr.2.1⟩
      have HN := hid (HG.out (bits .xor .u8 xb y) ⟨hxr.1, hxr.2.1⟩ hxr.2.2)
      clear hxr
      go_wp2_with fail
      generalize bits .xor .u8 xb y = vb at *
      have HB2 := hid (HB.out.set i0 vb (hlp.u8wf HV.out))
      have QB2 := hid (QB.out.setCell (p := ⟨g, i0, none⟩) (Or.inr (by simp; omega)) (.int .u8 vb))
      refine (decBad _ fr to (some ⟨g, 0, none⟩) L cap (en.set i0 vb) HB2.out.rd (by simp) (by omega) HN.out).mono ?_
      rintro x w5 ⟨rfl, o5⟩
      have hde := dErr_ne L ((en.set i0 vb).getD 12 0)
      generalize dErr L ((en.set i0 vb).getD 12 0) = er at *
      have e1 : (er != 0) = true := by simpa using hde
      have Q5 := hid ((QB2.out.trans o5).alloc (.cells #[.int .u32 0, .int .i64 0, .int .u32 0, .int .i64 0, .int .u32 0, .int .u32 0, .int .i64 0, .int .i64 0, .int .i64 0, .int .i64 0, .slice none 0 0] 26)); clear o5 hde
      go_wp2_with fail
      refine (known _).mono ?_
      rintro x w6 ⟨rfl, o6⟩
      have Q6 := hid (Q5.out.trans o6); clear o6
      go_wp2
      go_ret
      exact ⟨rfl, Q6.out⟩
theorem turned (w : World) (fr to sq ac : Int) (fp tp fl wi ms sc : Int) (A : Option Addr) (n c : Nat) (at' y : Int) (l : List Int) (hl : Rd .u8 w A n l) (hc0 : A = none → c = 0) (ha : (Lit.int .i64 at').wf = true) (hy : (Lit.int .u8 y).wf = true) :
    Calls Try.prog 7 #[.agg #[.int .u32 fr, .int .i64 fp, .int .u32 to, .int .i64 tp, .int .u32 sq, .int .u32 ac, .int .i64 fl, .int .i64 wi, .int .i64 ms, .int .i64 sc, .slice A n c], .int .i64 at', .int .u8 y] w fun x w' => x = .returned (.bool true) ∧ Only [] w w' := by
  have hy := u8Bd hy
  by_cases hn : n ≤ 2000
  · by_cases h : chk fp tp fl wi ms sc n = 0
    · have hLp : 0 < 20 + (opt ms sc).length + n := by omega
      generalize hL : 20 + (opt ms sc).length + n = L at *
      have h1 := Int.tmod_lt_of_pos at' (show (0 : Int) < (L : Int) by omega)
      have h2 : -(L : Int) < at'.tmod (L : Int) := by
        have := Int.lt_tmod_of_pos at' (show (0 : Int) < (L : Int) by omega)
        omega
      by_cases hp : 0 ≤ at'.tmod (L : Int)
      · exact turnedOk w fr to sq ac fp tp fl wi ms sc A n c at' y (at'.tmod (L : Int)).toNat L l hl hc0 hn h hL.symm hy (by omega) (.inl (by omega))
      · exact turnedOk w fr to sq ac fp tp fl wi ms sc A n c at' y (at'.tmod (L : Int) + L).toNat L l hl hc0 hn h hL.symm hy (by omega) (.inr (by omega))
    · exact turnedBad w fr to sq ac fp tp fl wi ms sc A n c at' y hn h
  · exact turnedOut w fr to sq ac fp tp fl wi ms sc A n c at' y hn
end Go.Proofs.Ytkpdgfimibmoeaa.seg
