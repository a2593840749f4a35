/-
  Chapter 14 (segment): what a segment is written as is read as it, the law, by a walk of its text. Conditions: none but those typed.
-/
import Derived.Test.YtkpdgfimibmoeaaSegW
import Derived.Test.YtkpdgfimibmoeaaSegJ
import Derived.Test.YtkpdgfimibmoeaaSegF
namespace Go.Proofs.Ytkpdgfimibmoeaa.seg
set_option linter.unusedVariables false
set_option linter.unusedSimpArgs false
open Go.ChangeShapes Go.WideShapes Go.ChangeAt Go.RowKit Go.IntWalk Go.Lib
theorem xor_low (t y : Int) (ht : 0 ≤ t ∧ t ≤ 4294967295) (hy : 0 ≤ y ∧ y ≤ 255) (hne : y ≠ 0) : 0 ≤ bits .xor .u32 t y ∧ bits .xor .u32 t y ≤ 4294967295 ∧ bits .xor .u32 t y / 256 = t / 256 ∧ bits .xor .u32 t y % 256 ≠ t % 256 := by
  rw [u32_xor t y ht.1 (by omega) hy.1 (by omega)]
  have h1 : (t.toNat ^^^ y.toNat) / 2 ^ 8 = t.toNat / 2 ^ 8 := by
    rw [Nat.xor_div_two_pow]
    rw [show y.toNat / 2 ^ 8 = 0 from by omega, Nat.xor_zero]
  have h2 : (t.toNat ^^^ y.toNat) % 2 ^ 8 = (t.toNat % 2 ^ 8) ^^^ (y.toNat % 2 ^ 8) := Nat.xor_mod_two_pow
  have h3 : t.toNat ^^^ y.toNat < 2 ^ 32 := Nat.xor_lt_two_pow (by omega) (by omega)
  have h4 : (t.toNat % 2 ^ 8) ^^^ (y.toNat % 2 ^ 8) ≠ t.toNat % 2 ^ 8 := by
    intro h
    have h5 : (t.toNat % 2 ^ 8) ^^^ ((t.toNat % 2 ^ 8) ^^^ (y.toNat % 2 ^ 8)) = y.toNat % 2 ^ 8 := by rw [← Nat.xor_assoc, Nat.xor_self, Nat.zero_xor]
    rw [h, Nat.xor_self] at h5
    omega
  rw [← h2] at h4
  generalize t.toNat ^^^ y.toNat = u at *
  refine ⟨by omega, by omega, by omega, by omega⟩
theorem wrong_sum (fr to to' : Int) (n : Nat) (e : List Int) (he : ∀ z ∈ e, 0 ≤ z ∧ z ≤ 255) (h0 : oct.sumF (psd fr to 6 n ++ e) = 0) (hd : to' / 256 = to / 256) (hm : to' % 256 ≠ to % 256) : oct.sumF (psd fr to' 6 n ++ e) ≠ 0 := by
  have h := oct.sum_turned (psd fr to 6 n ++ e) 7 (to' % 256) (fun z hz => by
    rcases List.mem_append.1 hz with h | h
    · simp [psd] at h; omega
    · exact he z h) (by simp [psd]) h0 (by omega) (by simpa [psd] using hm)
  have e1 : (psd fr to 6 n ++ e).set 7 (to' % 256) = psd fr to' 6 n ++ e := by
    have a1 : to' / 16777216 = to / 16777216 := by omega
    have a2 : to' / 65536 = to / 65536 := by omega
    simp [psd, a1, a2, hd]
  rwa [e1] at h
set_option maxHeartbeats 8000000 in
theorem backOut (w : World) (fr to sq ac : Int) (fp tp fl wi ms sc : Int) (A : Option Addr) (n c : Nat) (y : Int) (hn : ¬ n ≤ 70000) :
    Calls Try.prog 6 #[.agg #[.int .u32 fr, .int .i64 fp, .int .u32 to, .int .i64 tp, .int .u32 sq, .int .u32 ac, .int .i64 fl, .int .i64 wi, .int .i64 ms, .int .i64 sc, .slice A n c], .int .u8 y] w fun x w' => x = .returned (.bool true) ∧ Only [] w w' := by
  have h : 70000 < n := by omega
  go_enter Try.func6, Try.ntmps6
  go_wp2
  go_ret
  exact ⟨rfl, (Only.refl [] w).alloc _⟩
set_option maxHeartbeats 8000000 in
theorem backBad (w : World) (fr to sq ac : Int) (fp tp fl wi ms sc : Int) (A : Option Addr) (n c : Nat) (y : Int) (hn : n ≤ 70000) (h : chk fp tp fl wi ms sc n ≠ 0) :
    Calls Try.prog 6 #[.agg #[.int .u32 fr, .int .i64 fp, .int .u32 to, .int .i64 tp, .int .u32 sq, .int .u32 ac, .int .i64 fl, .int .i64 wi, .int .i64 ms, .int .i64 sc, .slice A n c], .int .u8 y] w fun x w' => x = .returned (.bool true) ∧ Only [] w w' := by
  have OB : Hid (Ob (w.alloc (.cells #[.int .u32 fr, .int .i64 fp, .int .u32 to, .int .i64 tp, .int .u32 sq, .int .u32 ac, .int .i64 fl, .int .i64 wi, .int .i64 ms, .int .i64 sc, .slice A n c] 26)) w.heap.size 26 #[.int .u32 fr, .int .i64 fp, .int .u32 to, .int .i64 tp, .int .u32 sq, .int .u32 ac, .int .i64 fl, .int .i64 wi, .int .i64 ms, .int .i64 sc, .slice A n c]) := hid (Ob.new _ _ _)
  have QB : Hid (Only [] w (w.alloc (.cells #[.int .u32 fr, .int .i64 fp, .int .u32 to, .int .i64 tp, .int .u32 sq, .int .u32 ac, .int .i64 fl, .int .i64 wi, .int .i64 ms, .int .i64 sc, .slice A n c] 26))) := hid ((Only.refl [] w).alloc _)
  have d1 : (chk fp tp fl wi ms sc n != 0) = true := by simpa using h
  have HD := hid d1; have HD2 := hid h; clear d1 h
  go_enter Try.func6, Try.ntmps6
  go_wp2_with fail
  refine (encE _ fr to sq ac fp tp fl wi ms sc A n c HD2.out).mono ?_
  rintro x w2 ⟨rfl, o2⟩
  have QB := hid (QB.out.trans o2); clear o2
  have d1 := HD.out
  generalize chk fp tp fl wi ms sc n = er at *
  go_wp2_with fail
  refine (known _).mono ?_
  rintro x w3 ⟨rfl, o3⟩
  have QB := hid (QB.out.trans o3); clear o3
  go_wp2
  go_ret
  exact ⟨rfl, QB.out⟩
set_option maxHeartbeats 8000000 in
theorem backOk (w : World) (fr to sq ac : Int) (fp tp fl wi ms sc : Int) (A : Option Addr) (n c : Nat) (y : Int) (L : Nat) (l : List Int) (hl : Rd .u8 w A n l) (hc0 : A = none → c = 0) (hn : n ≤ 70000) (h : chk fp tp fl wi ms sc n = 0) (hL : L = 20 + (opt ms sc).length + n) (hy : 0 ≤ y ∧ y ≤ 255) (h0 : 0 ≤ to ∧ to ≤ 4294967295) (h4 : 0 ≤ sq ∧ sq ≤ 4294967295) (h5 : 0 ≤ ac ∧ ac ≤ 4294967295) :
    Calls Try.prog 6 #[.agg #[.int .u32 fr, .int .i64 fp, .int .u32 to, .int .i64 tp, .int .u32 sq, .int .u32 ac, .int .i64 fl, .int .i64 wi, .int .i64 ms, .int .i64 sc, .slice A n c], .int .u8 y] w fun x w' => x = .returned (.bool true) ∧ Only [] w w' := by
  have OB : Hid (Ob (w.alloc (.cells #[.int .u32 fr, .int .i64 fp, .int .u32 to, .int .i64 tp, .int .u32 sq, .int .u32 ac, .int .i64 fl, .int .i64 wi, .int .i64 ms, .int .i64 sc, .slice A n c] 26)) w.heap.size 26 #[.int .u32 fr, .int .i64 fp, .int .u32 to, .int .i64 tp, .int .u32 sq, .int .u32 ac, .int .i64 fl, .int .i64 wi, .int .i64 ms, .int .i64 sc, .slice A n c]) := hid (Ob.new _ _ _)
  have QB : Hid (Only [] w (w.alloc (.cells #[.int .u32 fr, .int .i64 fp, .int .u32 to, .int .i64 tp, .int .u32 sq, .int .u32 ac, .int .i64 fl, .int .i64 wi, .int .i64 ms, .int .i64 sc, .slice A n c] 26))) := hid ((Only.refl [] w).alloc _)
  have HLen := hid hl.len
  have HWL := hid hl.wf
  obtain ⟨hgd, hgk⟩ := chk_good h
  have hL1 : 20 ≤ L := by omega
  have hL2 : L ≤ 65515 := by omega
  have HS : Hid (oct.sumF (psd fr to 6 L ++ encB fr to sq ac fp tp fl wi ms sc l) = 0) := hid (enc_sum fr to sq ac fp tp fl wi ms sc l hl.wf L (by rw [encB_len, hL, hl.len]))
  have HEL : Hid ((encB fr to sq ac fp tp fl wi ms sc l).length = L) := hid (by rw [encB_len, hL, hl.len])
  have H4 : Hid (dErr L ((encB fr to sq ac fp tp fl wi ms sc l).getD 12 0) = 4) := hid (by
    have h3 := opt_len4 ms sc
    rw [enc12 _ _ _ _ _ _ _ _ _ _ _ _ rfl]
    exact dErr_4 L _ hL1 hL2 (by rcases h3 with h3 | h3 | h3 <;> rw [h3] <;> omega) (by rcases h3 with h3 | h3 | h3 <;> rw [h3] at hL ⊢ <;> omega))
  have HGD := hid hgd
  have HGK : Hid (l.length + (opt ms sc).length ≤ 65495) := hid (by rw [hl.len]; exact hgk)
  have HL := hid hl; clear hl
  have HC := hid hc0; clear hc0
  have HD := hid h; clear h hL hgd hgk
  go_enter Try.func6, Try.ntmps6
  go_wp2_with fail
  refine (enc1 _ fr to sq ac fp tp fl wi ms sc A n c l (HL.out.only_nil QB.out) HC.out (by omega) HD.out).mono ?_
  rintro x w2 ⟨v2, rfl, hb, o2⟩
  obtain ⟨g, cap, e2⟩ := hb.some_form (by rw [HEL.out]; omega)
  rw [HEL.out] at e2
  subst e2
  have hcap := hb.len
  obtain ⟨_, hcap1, hcap2⟩ := hcap
  have HB := hid hb; have OB := hid (OB.out.only o2 (by simp)); have QB := hid (QB.out.trans o2); clear hb o2
  have k0 := OB.out.cell 0; have k1 := OB.out.cell 1; have k2 := OB.out.cell 2; have k3 := OB.out.cell 3; have k4 := OB.out.cell 4; have k5 := OB.out.cell 5; have k6 := OB.out.cell 6; have k7 := OB.out.cell 7; have k8 := OB.out.cell 8; have k9 := OB.out.cell 9; have k10 := OB.out.cell 10
  go_wp2_with fail
  clear k0 k1 k2 k3 k4 k5 k6 k7 k8 k9 k10
  refine (decEnc _ fr to sq ac fp tp fl wi ms sc l (some ⟨g, 0, none⟩) L cap HB.out.rd hcap1 (by simp) HGD.out h4 h5 HWL.out HGK.out).mono ?_
  rintro x w3 ⟨v3, rfl, hv, o3⟩
  generalize encB fr to sq ac fp tp fl wi ms sc l = en at *
  obtain ⟨A3, cap3, ev3, _, _, r3, _⟩ := hv.slice
  rw [HLen.out] at ev3 r3
  subst ev3
  have R3 := hid r3
  have HB := hid (HB.out.only_nil o3); have OB := hid (OB.out.only o3 (by simp)); have QB := hid (QB.out.trans o3); clear hv o3 r3
  have hlt3 := OB.out.lt
  have HB := hid (HB.out.alloc (.cells #[.int .u32 fr, .int .i64 fp, .int .u32 to, .int .i64 tp, .int .u32 sq, .int .u32 ac, .int .i64 fl, .int .i64 wi, .int .i64 ms, .int .i64 sc, .slice A3 n cap3] 26)); have OB := hid (OB.out.alloc (.cells #[.int .u32 fr, .int .i64 fp, .int .u32 to, .int .i64 tp, .int .u32 sq, .int .u32 ac, .int .i64 fl, .int .i64 wi, .int .i64 ms, .int .i64 sc, .slice A3 n cap3] 26)); have QB := hid (QB.out.alloc (.cells #[.int .u32 fr, .int .i64 fp, .int .u32 to, .int .i64 tp, .int .u32 sq, .int .u32 ac, .int .i64 fl, .int .i64 wi, .int .i64 ms, .int .i64 sc, .slice A3 n cap3] 26)); have R3 := hid (R3.out.alloc (.cells #[.int .u32 fr, .int .i64 fp, .int .u32 to, .int .i64 tp, .int .u32 sq, .int .u32 ac, .int .i64 fl, .int .i64 wi, .int .i64 ms, .int .i64 sc, .slice A3 n cap3] 26))
  have k0 := OB.out.cell 0; have k1 := OB.out.cell 1; have k2 := OB.out.cell 2; have k3 := OB.out.cell 3; have k4 := OB.out.cell 4; have k5 := OB.out.cell 5; have k6 := OB.out.cell 6; have k7 := OB.out.cell 7; have k8 := OB.out.cell 8; have k9 := OB.out.cell 9; have k10 := OB.out.cell 10
  go_wp2_with fail
  clear k0 k1 k2 k3 k4 k5 k6 k7 k8 k9 k10
  refine (segs _ fr to sq ac fp tp fl wi ms sc A A3 n c cap3 l (HL.out.only_nil QB.out) R3.out (by omega)).mono ?_
  rintro x w4 ⟨rfl, o4⟩
  have HB := hid (HB.out.only_nil o4); have OB := hid (OB.out.only o4 (by simp)); have QB := hid (QB.out.trans o4); clear o4
  have k0 := OB.out.cell 0; have k2 := OB.out.cell 2
  by_cases hy0 : y = 0
  · subst hy0
    have hx := xor_low to 1 h0 (by omega) (by omega)
    have HX := hid hx
    have HN := hid (wrong_sum fr to (bits .xor .u32 to 1) L en (fun z hz => u8Bd (HB.out.2 z hz)) HS.out hx.2.2.1 hx.2.2.2)
    clear hx
    go_wp2_with fail
    generalize bits .xor .u32 to 1 = to' at *
    refine (decBad _ fr to' (some ⟨g, 0, none⟩) L cap en HB.out.rd (by simp) (by omega) HN.out).mono ?_
    rintro x w5 ⟨rfl, o5⟩
    rw [H4.out]
    have Q5 := hid ((QB.out.trans o5).alloc (.cells #[.int .u32 0, .int .i64 0, .int .u32 0, .int .i64 0, .int .u32 0, .int .u32 0, .int .i64 0, .int .i64 0, .int .i64 0, .int .i64 0, .slice none 0 0] 26)); clear o5
    go_wp2_with fail
    refine (known _).mono ?_
    rintro x w6 ⟨rfl, o6⟩
    have Q6 := hid (Q5.out.trans o6); clear o6
    go_wp2
    go_ret
    exact ⟨rfl, Q6.out⟩
  · have hyb : (y == 0) = false := by simpa using hy0
    have hx := xor_low to y h0 (by omega) (by omega)
    have HX := hid hx
    have HN := hid (wrong_sum fr to (bits .xor .u32 to y) L en (fun z hz => u8Bd (HB.out.2 z hz)) HS.out hx.2.2.1 hx.2.2.2)
    clear hx
    go_wp2_with fail
    generalize bits .xor .u32 to y = to' at *
    refine (decBad _ fr to' (some ⟨g, 0, none⟩) L cap en HB.out.rd (by simp) (by omega) HN.out).mono ?_
    rintro x w5 ⟨rfl, o5⟩
    rw [H4.out]
    have Q5 := hid ((QB.out.trans o5).alloc (.cells #[.int .u32 0, .int .i64 0, .int .u32 0, .int .i64 0, .int .u32 0, .int .u32 0, .int .i64 0, .int .i64 0, .int .i64 0, .int .i64 0, .slice none 0 0] 26)); clear o5
    go_wp2_with fail
    refine (known _).mono ?_
    rintro x w6 ⟨rfl, o6⟩
    have Q6 := hid (Q5.out.trans o6); clear o6
    go_wp2
    go_ret
    exact ⟨rfl, Q6.out⟩
theorem back (w : World) (fr to sq ac : Int) (fp tp fl wi ms sc : Int) (A : Option Addr) (n c : Nat) (y : Int) (l : List Int) (hl : Rd .u8 w A n l) (hc0 : A = none → c = 0) (h0 : (Lit.int .u32 to).wf = true) (h4 : (Lit.int .u32 sq).wf = true) (h5 : (Lit.int .u32 ac).wf = true) (hy : (Lit.int .u8 y).wf = true) :
    Calls Try.prog 6 #[.agg #[.int .u32 fr, .int .i64 fp, .int .u32 to, .int .i64 tp, .int .u32 sq, .int .u32 ac, .int .i64 fl, .int .i64 wi, .int .i64 ms, .int .i64 sc, .slice A n c], .int .u8 y] w fun x w' => x = .returned (.bool true) ∧ Only [] w w' := by
  by_cases hn : n ≤ 70000
  · by_cases h : chk fp tp fl wi ms sc n = 0
    · exact backOk w fr to sq ac fp tp fl wi ms sc A n c y _ l hl hc0 hn h rfl (u8Bd hy) (u32Bd h0) (u32Bd h4) (u32Bd h5)
    · exact backBad w fr to sq ac fp tp fl wi ms sc A n c y hn h
  · exact backOut w fr to sq ac fp tp fl wi ms sc A n c y hn
end Go.Proofs.Ytkpdgfimibmoeaa.seg
