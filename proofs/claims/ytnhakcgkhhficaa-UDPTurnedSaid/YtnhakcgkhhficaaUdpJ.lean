/-
  Chapter 11 (udp): a datagram of which one byte is turned into another, on sums and by a walk of the law's text. Conditions: none but those typed.
-/
import Derived.Test.YtnhakcgkhhficaaUdpIa
import Derived.Test.YtnhakcgkhhficaaTrn11
namespace Go.Proofs.Ytnhakcgkhhficaa.udp
set_option linter.unusedVariables false
set_option linter.unusedSimpArgs false
open Go.ChangeShapes Go.WideShapes Go.ChangeAt Go.RowKit Go.IntWalk Go.Lib
theorem encSum (fr fp to tp : Int) (l : List Int) (hl : l.length ≤ 65507) (hg : Good fp tp) (hw : ∀ z ∈ l, 0 ≤ z ∧ z ≤ 255) (h1 : 0 ≤ fr ∧ fr ≤ 4294967295) (h2 : 0 ≤ to ∧ to ≤ 4294967295) :
    oct.sumF (psd.psd fr to 17 (8 + (l.length : Int)) ++ encU fr fp to tp l) = 0 := by
  obtain ⟨g1, g2⟩ := hg
  have hws := (oct.ws_bd l hw).1
  have hm : 0 ≤ (8 + (l.length : Int)) ∧ (8 + (l.length : Int)) ≤ 65535 := by omega
  have hS : sumU fr fp to tp l = 65535 - oct.F (W4 fr to + 17 + (8 + (l.length : Int)) + (fp + tp + (8 + (l.length : Int)) + 0 + oct.ws l)) := by
    unfold sumU
    rw [show (((8 + l.length : Nat)) : Int) = 8 + (l.length : Int) from by omega, sum_psd fr to _ _ h1 h2 hm, ws_body fp tp 0 l g1 g2 (by omega) hl]
  have n1 := W4_nn fr to h1.1 h2.1
  obtain ⟨s, hs⟩ : ∃ s, fixU (sumU fr fp to tp l) = s := ⟨_, rfl⟩
  have hsb : 1 ≤ s ∧ s ≤ 65535 ∧ (W4 fr to + 17 + (8 + (l.length : Int)) + (fp + tp + (8 + (l.length : Int)) + 0 + oct.ws l) + s) % 65535 = 0 := by
    rw [← hs, hS]
    have hfx := fix_ok (W4 fr to + 17 + (8 + (l.length : Int)) + (fp + tp + (8 + (l.length : Int)) + 0 + oct.ws l)) (by omega)
    exact hfx
  have hE : encU fr fp to tp l = body fp tp s l := by unfold encU; rw [hs]
  rw [hE, sum_psd fr to _ _ h1 h2 hm, ws_body fp tp s l g1 g2 (by omega) hl]
  obtain ⟨k1, k2, k3⟩ := hsb
  generalize W4 fr to = w at *
  generalize oct.ws l = x at *
  unfold oct.F
  rw [if_neg (by omega)]
  omega
theorem getD_set (l : List Int) (k i : Nat) (v : Int) (hk : k < l.length) : (l.set k v).getD i 0 = if i = k then v else l.getD i 0 := by
  simp only [List.getD_eq_getElem?_getD, List.getElem?_set]
  by_cases h : k = i
  · subst h; simp [hk]
  · simp [h, Ne.symm h]
theorem turnedE (fr fp to tp : Int) (l : List Int) (k : Nat) (v : Int) (hl : l.length ≤ 65507) (hg : Good fp tp) (hw : ∀ z ∈ l, 0 ≤ z ∧ z ≤ 255) (h1 : 0 ≤ fr ∧ fr ≤ 4294967295) (h2 : 0 ≤ to ∧ to ≤ 4294967295)
    (he : ∀ z ∈ encU fr fp to tp l, 0 ≤ z ∧ z ≤ 255) (hk : k < 8 + l.length) (hv : 0 ≤ v ∧ v ≤ 255) (hne : v ≠ (encU fr fp to tp l).getD k 0) :
    dE fr to ((encU fr fp to tp l).set k v) ≠ 0 ∨ (((encU fr fp to tp l).set k v).getD 6 0 = 0 ∧ ((encU fr fp to tp l).set k v).getD 7 0 = 0) ∨ k = 4 ∨ k = 5 := by
  by_cases h4 : k = 4
  · exact .inr (.inr (.inl h4))
  · by_cases h5 : k = 5
    · exact .inr (.inr (.inr h5))
    · have hsum := encSum fr fp to tp l hl hg hw h1 h2
      have hlenE : (encU fr fp to tp l).length = 8 + l.length := by unfold encU; exact body_len _ _ _ _
      have hL : lenU (encU fr fp to tp l) = 8 + (l.length : Int) := by
        unfold lenU encU
        simp [ref.get2, body]; omega
      generalize encU fr fp to tp l = e at *
      by_cases hz : ((e.set k v).getD 6 0 = 0 ∧ (e.set k v).getD 7 0 = 0)
      · exact .inr (.inl hz)
      · left
        have hL' : lenU (e.set k v) = 8 + (l.length : Int) := by
          rw [← hL]
          unfold lenU ref.get2
          rw [getD_set _ _ _ _ (by omega), getD_set _ _ _ _ (by omega), if_neg (by omega), if_neg (by omega)]
        have hwf : ∀ z ∈ e.set k v, 0 ≤ z ∧ z ≤ 255 := by
          intro z hz
          rcases List.mem_or_eq_of_mem_set hz with h | h
          · exact he z h
          · rw [h]; exact hv
        have hlen' : (e.set k v).length = 8 + l.length := by rw [List.length_set, hlenE]
        have hs' : oct.sumF (psd.psd fr to 17 (8 + (l.length : Int)) ++ e.set k v) ≠ 0 := by
          have h := oct.sum_turned (psd.psd fr to 17 (8 + (l.length : Int)) ++ e) (12 + k) v (fun z hz => by
            rcases List.mem_append.1 hz with h | h
            · simp [psd.psd] at h; omega
            · exact he z h) (by simp [psd.psd]; omega) hsum hv (by
              rw [List.getD_eq_getElem?_getD, List.getElem?_append_right (by simp [psd.psd])]
              rw [List.getD_eq_getElem?_getD] at hne
              simpa [psd.psd] using hne)
          rw [List.set_append_right _ _ (by simp [psd.psd])] at h
          simpa [psd.psd] using h
        have h6 : ref.get2 (e.set k v) 6 ≠ 0 := by
          have a := hwf ((e.set k v).getD 6 0) (by rw [List.getD_eq_getElem?_getD, List.getElem?_eq_getElem (by omega)]; exact List.getElem_mem _)
          have b := hwf ((e.set k v).getD 7 0) (by rw [List.getD_eq_getElem?_getD, List.getElem?_eq_getElem (by omega)]; exact List.getElem_mem _)
          show (e.set k v).getD 6 0 * 256 + (e.set k v).getD 7 0 ≠ 0
          omega
        have hB : badU fr to (e.set k v) = true := by
          unfold badU
          rw [hL', List.take_of_length_le (by rw [hlen']; omega)]
          simp [h6, hs']
        unfold dE
        rw [if_neg (by rw [hlen']; omega), if_neg (by rw [hL']; omega), if_neg (by rw [hL', hlen']; omega), if_pos hB]
        decide
set_option maxRecDepth 100000 in
set_option maxHeartbeats 4000000 in
theorem turnedOk (w : World) (fr fp to tp at' y : Int) (A : Option Addr) (n c : Nat) (l : List Int) (i0 LL : Nat) (hl : Rd .u8 w A n l) (hc0 : A = none → c = 0) (hn : n ≤ 2000) (hg : Good fp tp) (hLL : LL = 8 + n) (h1 : 0 ≤ fr ∧ fr ≤ 4294967295) (h2 : 0 ≤ to ∧ to ≤ 4294967295) (hy : 0 ≤ y ∧ y ≤ 255) (hi0 : i0 < LL) (hr : at'.tmod (LL : Int) = (i0 : Int) ∨ at'.tmod (LL : Int) = (i0 : Int) - (LL : Int)) :
    Calls Try.prog 7 #[.agg #[.int .u32 fr, .int .i64 fp, .int .u32 to, .int .i64 tp, .slice A n c], .int .i64 at', .int .u8 y] w (fun e w' => e = .returned (.bool true) ∧ Only [] w w') := by
  have OB : Hid (Ob (w.alloc (.cells #[.int .u32 fr, .int .i64 fp, .int .u32 to, .int .i64 tp, .slice A n c] 32)) w.heap.size 32 #[.int .u32 fr, .int .i64 fp, .int .u32 to, .int .i64 tp, .slice A n c]) := hid (Ob.new _ _ _)
  have HB : Hid (Only [] w (w.alloc (.cells #[.int .u32 fr, .int .i64 fp, .int .u32 to, .int .i64 tp, .slice A n c] 32))) := hid ((Only.refl [] w).alloc _)
  have HLen := hid hl.len
  have HWF : Hid (∀ z ∈ l, 0 ≤ z ∧ z ≤ 255) := hid (fun z hz => u8Bd (hl.wf z hz))
  have HEL : Hid ((encU fr fp to tp l).length = LL) := hid (by unfold encU; rw [body_len, hl.len, hLL])
  have HGT : Hid (∀ (i : Nat) (v : Int), (∀ z ∈ encU fr fp to tp l, 0 ≤ z ∧ z ≤ 255) → i < LL → 0 ≤ v ∧ v ≤ 255 → v ≠ (encU fr fp to tp l).getD i 0 → dE fr to ((encU fr fp to tp l).set i v) ≠ 0 ∨ (((encU fr fp to tp l).set i v).getD 6 0 = 0 ∧ ((encU fr fp to tp l).set i v).getD 7 0 = 0) ∨ i = 4 ∨ i = 5) := hid (fun i v he hi hv hne => turnedE fr fp to tp l i v (by rw [hl.len]; omega) hg HWF.out h1 h2 he (by rw [hl.len]; omega) hv hne)
  have HL := hid hl; clear hl
  have HC := hid hc0; clear hc0
  have HR := hid hr; clear hr
  have hn' : ¬ (n : Int) > 2000 := by omega
  have hLb : 8 ≤ LL ∧ LL ≤ 2008 := by omega
  clear hLL
  go_enter Try.func7, Try.ntmps7
  go_wp2_with (first
    | (refine wp_loadOb rfl 32 (.tmp 3) rfl w.heap.size rfl _ 32 OB.out Try.underlying32 rfl (by kernel_rfl) ?_; try simp only [Act.put, List.setIfInBounds_toArray, List.set_cons_zero, List.set_cons_succ])
    | fail)
  refine (enc1 _ fr fp to tp A n c l (HL.out.only_nil HB.out) HC.out hg (by omega)).mono ?_
  rintro x w2 ⟨v2, rfl, hv2, o2⟩
  generalize encU fr fp to tp l = en at *
  obtain ⟨g, cap, e2⟩ := hv2.some_form (by rw [HEL.out]; omega)
  rw [HEL.out] at e2
  subst e2
  have hlow : w.heap.size + 1 ≤ g := by simpa using hv2.base_le.1
  have hcl := hv2.len
  have HEN := hid hv2; have OB := hid (OB.out.only o2 (by simp)); have HB := hid (HB.out.trans o2); clear hv2 o2
  have hx := u8Bd (HEN.out.rd.getD_wf i0 hi0)
  have c0 := HEN.out.cellD i0 hi0
  have f0 := HEN.out.frozen i0
  have HG : Hid (∀ v, 0 ≤ v ∧ v ≤ 255 → v ≠ en.getD i0 0 → dE fr to (en.set i0 v) ≠ 0 ∨ ((en.set i0 v).getD 6 0 = 0 ∧ (en.set i0 v).getD 7 0 = 0) ∨ i0 = 4 ∨ i0 = 5) := hid (fun v hv hne => HGT.out i0 v (fun z hz => u8Bd (HEN.out.2 z hz)) hi0 hv hne)
  clear HGT
  generalize en.getD i0 0 = xb at *
  have hi1 : (i0 : Int) < (LL : Int) := by omega
  have hnz : ¬ (LL : Int) = 0 := by omega
  have hge : ¬ (LL : Int) < 8 := by omega
  have hgn : ¬ w.heap.size = g := by omega
  have k0 : w2.cell? ⟨w.heap.size, 0, none⟩ = some (.int .u32 fr) := OB.out.cell 0
  have k2 : w2.cell? ⟨w.heap.size, 2, none⟩ = some (.int .u32 to) := OB.out.cell 2
  rcases HR.out with hr | hr
  · by_cases hy0 : y = 0
    · subst hy0
      have hxr := oct.xor_ne xb 1 hx (by omega) (by omega)
      have HV : Hid (0 ≤ bits .xor .u8 xb 1 ∧ bits .xor .u8 xb 1 ≤ 255) := hid ⟨hxr.1, hxr.2.1⟩
      have HN := hid (HG.out (bits .xor .u8 xb 1) ⟨hxr.1, hxr.2.1⟩ hxr.2.2)
      clear hxr
      go_wp2_with fail
      generalize bits .xor .u8 xb 1 = vb at *
      have HE2 := hid (HEN.out.set i0 vb (hlp.u8wf HV.out))
      have HB := hid (HB.out.setCell (p := ⟨g, i0, none⟩) (Or.inr (by show w.heap.size ≤ g; omega)) (.int .u8 vb))
      have z6 := HE2.out.cellD 6 (by omega)
      have z7 := HE2.out.cellD 7 (by omega)
      have Z6 := hid z6; have Z7 := hid z7; clear z6 z7
      generalize hb6 : (en.set i0 vb).getD 6 0 = b6 at *
      generalize hb7 : (en.set i0 vb).getD 7 0 = b7 at *
      clear hb6 hb7
      refine (dec1 _ fr to (some ⟨g, 0, none⟩) LL cap (en.set i0 vb) HE2.out.rd (by simp) (by omega) (by omega)).mono ?_
      rintro x w5 ⟨v5, rfl, hv5, o5⟩
      have hgd : ∃ a b c2 d, dG fr to (en.set i0 vb) v5 = .agg #[.int .u32 a, .int .i64 b, .int .u32 c2, .int .i64 d, v5] := by
        unfold dG
        split <;> exact ⟨_, _, _, _, rfl⟩
      obtain ⟨a9, b9, c9, d9, hg1⟩ := hgd
      rw [hg1]
      obtain ⟨A5, cap5, ev5, _, _, _, _⟩ := hv5.slice
      subst ev5
      have q6 := o5.keep Z6.out
      have q7 := o5.keep Z7.out
      have hg5 : g < w5.heap.size := block_lt_of_cell q6
      have hg6 : ¬ g = w5.heap.size := by omega
      have HB := hid (HB.out.trans o5)
      clear hv5 o5 hg1 Z6 Z7 c0 f0
      generalize dE fr to (en.set i0 vb) = er at *
      generalize (dD fr to (en.set i0 vb)).length = dl at *
      have HBF := hid (HB.out.alloc (.cells #[.int .u32 a9, .int .i64 b9, .int .u32 c9, .int .i64 d9, .slice A5 dl cap5] 32))
      have hgl := HE2.out.base_le
      by_cases her : er = 0
      · by_cases hz : b6 = 0 ∧ b7 = 0
        · obtain ⟨rfl, rfl⟩ := hz
          subst her
          clear HN
          go_wp2_with fail
          refine (ev.known _).mono ?_
          rintro x w9 ⟨rfl, o9⟩
          have HB := hid (HBF.out.trans o9); clear o9
          go_wp2
          go_ret
          exact ⟨rfl, HB.out⟩
        · have h45 : i0 = 4 ∨ i0 = 5 := by have := HN.out; omega
          clear HN
          subst her
          by_cases h6 : b6 = 0
          · have h7 : (b7 == 0) = false := by simp; omega
            subst h6
            rcases h45 with rfl | rfl
            · go_wp2_with fail
              refine (ev.known _).mono ?_
              rintro x w9 ⟨rfl, o9⟩
              have HB := hid (HBF.out.trans o9); clear o9
              go_wp2
              go_ret
              exact ⟨rfl, HB.out⟩
            · go_wp2_with fail
              refine (ev.known _).mono ?_
              rintro x w9 ⟨rfl, o9⟩
              have HB := hid (HBF.out.trans o9); clear o9
              go_wp2
              go_ret
              exact ⟨rfl, HB.out⟩
          · have h6' : (b6 == 0) = false := by simpa using h6
            rcases h45 with rfl | rfl
            · go_wp2_with fail
              refine (ev.known _).mono ?_
              rintro x w9 ⟨rfl, o9⟩
              have HB := hid (HBF.out.trans o9); clear o9
              go_wp2
              go_ret
              exact ⟨rfl, HB.out⟩
            · go_wp2_with fail
              refine (ev.known _).mono ?_
              rintro x w9 ⟨rfl, o9⟩
              have HB := hid (HBF.out.trans o9); clear o9
              go_wp2
              go_ret
              exact ⟨rfl, HB.out⟩
      · have he2 : (er != 0) = true := by simpa using her
        have he1 : (er == 0) = false := by simpa using her
        clear HN
        by_cases h6 : b6 = 0
        · subst h6
          by_cases h7 : b7 = 0
          · subst h7
            go_wp2_with fail
            refine (ev.known _).mono ?_
            rintro x w9 ⟨rfl, o9⟩
            have HB := hid (HBF.out.trans o9); clear o9
            go_wp2
            go_ret
            exact ⟨rfl, HB.out⟩
          · have h7' : (b7 == 0) = false := by simpa using h7
            go_wp2_with fail
            refine (ev.known _).mono ?_
            rintro x w9 ⟨rfl, o9⟩
            have HB := hid (HBF.out.trans o9); clear o9
            go_wp2
            go_ret
            exact ⟨rfl, HB.out⟩
        · have h6' : (b6 == 0) = false := by simpa using h6
          go_wp2_with fail
          refine (ev.known _).mono ?_
          rintro x w9 ⟨rfl, o9⟩
          have HB := hid (HBF.out.trans o9); clear o9
          go_wp2
          go_ret
          exact ⟨rfl, HB.out⟩
    · have hyb : (y == 0) = false := by simpa using hy0
      have hxr := oct.xor_ne xb y hx (by omega) (by omega)
      have HV : Hid (0 ≤ bits .xor .u8 xb y ∧ bits .xor .u8 xb y ≤ 255) := hid ⟨hxr.1, hxr.2.1⟩
      have HN := hid (HG.out (bits .xor .u8 xb y) ⟨hxr.1, hxr.2.1⟩ hxr.2.2)
      clear hxr
      go_wp2_with fail
      generalize bits .xor .u8 xb y = vb at *
      have HE2 := hid (HEN.out.set i0 vb (hlp.u8wf HV.out))
      have HB := hid (HB.out.setCell (p := ⟨g, i0, none⟩) (Or.inr (by show w.heap.size ≤ g; omega)) (.int .u8 vb))
      have z6 := HE2.out.cellD 6 (by omega)
      have z7 := HE2.out.cellD 7 (by omega)
      have Z6 := hid z6; have Z7 := hid z7; clear z6 z7
      generalize hb6 : (en.set i0 vb).getD 6 0 = b6 at *
      generalize hb7 : (en.set i0 vb).getD 7 0 = b7 at *
      clear hb6 hb7
      refine (dec1 _ fr to (some ⟨g, 0, none⟩) LL cap (en.set i0 vb) HE2.out.rd (by simp) (by omega) (by omega)).mono ?_
      rintro x w5 ⟨v5, rfl, hv5, o5⟩
      have hgd : ∃ a b c2 d, dG fr to (en.set i0 vb) v5 = .agg #[.int .u32 a, .int .i64 b, .int .u32 c2, .int .i64 d, v5] := by
        unfold dG
        split <;> exact ⟨_, _, _, _, rfl⟩
      obtain ⟨a9, b9, c9, d9, hg1⟩ := hgd
      rw [hg1]
      obtain ⟨A5, cap5, ev5, _, _, _, _⟩ := hv5.slice
      subst ev5
      have q6 := o5.keep Z6.out
      have q7 := o5.keep Z7.out
      have hg5 : g < w5.heap.size := block_lt_of_cell q6
      have hg6 : ¬ g = w5.heap.size := by omega
      have HB := hid (HB.out.trans o5)
      clear hv5 o5 hg1 Z6 Z7 c0 f0
      generalize dE fr to (en.set i0 vb) = er at *
      generalize (dD fr to (en.set i0 vb)).length = dl at *
      have HBF := hid (HB.out.alloc (.cells #[.int .u32 a9, .int .i64 b9, .int .u32 c9, .int .i64 d9, .slice A5 dl cap5] 32))
      have hgl := HE2.out.base_le
      by_cases her : er = 0
      · by_cases hz : b6 = 0 ∧ b7 = 0
        · obtain ⟨rfl, rfl⟩ := hz
          subst her
          clear HN
          go_wp2_with fail
          refine (ev.known _).mono ?_
          rintro x w9 ⟨rfl, o9⟩
          have HB := hid (HBF.out.trans o9); clear o9
          go_wp2
          go_ret
          exact ⟨rfl, HB.out⟩
        · have h45 : i0 = 4 ∨ i0 = 5 := by have := HN.out; omega
          clear HN
          subst her
          by_cases h6 : b6 = 0
          · have h7 : (b7 == 0) = false := by simp; omega
            subst h6
            rcases h45 with rfl | rfl
            · go_wp2_with fail
              refine (ev.known _).mono ?_
              rintro x w9 ⟨rfl, o9⟩
              have HB := hid (HBF.out.trans o9); clear o9
              go_wp2
              go_ret
              exact ⟨rfl, HB.out⟩
            · go_wp2_with fail
              refine (ev.known _).mono ?_
              rintro x w9 ⟨rfl, o9⟩
              have HB := hid (HBF.out.trans o9); clear o9
              go_wp2
              go_ret
              exact ⟨rfl, HB.out⟩
          · have h6' : (b6 == 0) = false := by simpa using h6
            rcases h45 with rfl | rfl
            · go_wp2_with fail
              refine (ev.known _).mono ?_
              rintro x w9 ⟨rfl, o9⟩
              have HB := hid (HBF.out.trans o9); clear o9
              go_wp2
              go_ret
              exact ⟨rfl, HB.out⟩
            · go_wp2_with fail
              refine (ev.known _).mono ?_
              rintro x w9 ⟨rfl, o9⟩
              have HB := hid (HBF.out.trans o9); clear o9
              go_wp2
              go_ret
              exact ⟨rfl, HB.out⟩
      · have he2 : (er != 0) = true := by simpa using her
        have he1 : (er == 0) = false := by simpa using her
        clear HN
        by_cases h6 : b6 = 0
        · subst h6
          by_cases h7 : b7 = 0
          · subst h7
            go_wp2_with fail
            refine (ev.known _).mono ?_
            rintro x w9 ⟨rfl, o9⟩
            have HB := hid (HBF.out.trans o9); clear o9
            go_wp2
            go_ret
            exact ⟨rfl, HB.out⟩
          · have h7' : (b7 == 0) = false := by simpa using h7
            go_wp2_with fail
            refine (ev.known _).mono ?_
            rintro x w9 ⟨rfl, o9⟩
            have HB := hid (HBF.out.trans o9); clear o9
            go_wp2
            go_ret
            exact ⟨rfl, HB.out⟩
        · have h6' : (b6 == 0) = false := by simpa using h6
          go_wp2_with fail
          refine (ev.known _).mono ?_
          rintro x w9 ⟨rfl, o9⟩
          have HB := hid (HBF.out.trans o9); clear o9
          go_wp2
          go_ret
          exact ⟨rfl, HB.out⟩
  · have hneg : (i0 : Int) - (LL : Int) < 0 := by omega
    by_cases hy0 : y = 0
    · subst hy0
      have hxr := oct.xor_ne xb 1 hx (by omega) (by omega)
      have HV : Hid (0 ≤ bits .xor .u8 xb 1 ∧ bits .xor .u8 xb 1 ≤ 255) := hid ⟨hxr.1, hxr.2.1⟩
      have HN := hid (HG.out (bits .xor .u8 xb 1) ⟨hxr.1, hxr.2.1⟩ hxr.2.2)
      clear hxr
      go_wp2_with fail
      generalize bits .xor .u8 xb 1 = vb at *
      have HE2 := hid (HEN.out.set i0 vb (hlp.u8wf HV.out))
      have HB := hid (HB.out.setCell (p := ⟨g, i0, none⟩) (Or.inr (by show w.heap.size ≤ g; omega)) (.int .u8 vb))
      have z6 := HE2.out.cellD 6 (by omega)
      have z7 := HE2.out.cellD 7 (by omega)
      have Z6 := hid z6; have Z7 := hid z7; clear z6 z7
      generalize hb6 : (en.set i0 vb).getD 6 0 = b6 at *
      generalize hb7 : (en.set i0 vb).getD 7 0 = b7 at *
      clear hb6 hb7
      refine (dec1 _ fr to (some ⟨g, 0, none⟩) LL cap (en.set i0 vb) HE2.out.rd (by simp) (by omega) (by omega)).mono ?_
      rintro x w5 ⟨v5, rfl, hv5, o5⟩
      have hgd : ∃ a b c2 d, dG fr to (en.set i0 vb) v5 = .agg #[.int .u32 a, .int .i64 b, .int .u32 c2, .int .i64 d, v5] := by
        unfold dG
        split <;> exact ⟨_, _, _, _, rfl⟩
      obtain ⟨a9, b9, c9, d9, hg1⟩ := hgd
      rw [hg1]
      obtain ⟨A5, cap5, ev5, _, _, _, _⟩ := hv5.slice
      subst ev5
      have q6 := o5.keep Z6.out
      have q7 := o5.keep Z7.out
      have hg5 : g < w5.heap.size := block_lt_of_cell q6
      have hg6 : ¬ g = w5.heap.size := by omega
      have HB := hid (HB.out.trans o5)
      clear hv5 o5 hg1 Z6 Z7 c0 f0
      generalize dE fr to (en.set i0 vb) = er at *
      generalize (dD fr to (en.set i0 vb)).length = dl at *
      have HBF := hid (HB.out.alloc (.cells #[.int .u32 a9, .int .i64 b9, .int .u32 c9, .int .i64 d9, .slice A5 dl cap5] 32))
      have hgl := HE2.out.base_le
      by_cases her : er = 0
      · by_cases hz : b6 = 0 ∧ b7 = 0
        · obtain ⟨rfl, rfl⟩ := hz
          subst her
          clear HN
          go_wp2_with fail
          refine (ev.known _).mono ?_
          rintro x w9 ⟨rfl, o9⟩
          have HB := hid (HBF.out.trans o9); clear o9
          go_wp2
          go_ret
          exact ⟨rfl, HB.out⟩
        · have h45 : i0 = 4 ∨ i0 = 5 := by have := HN.out; omega
          clear HN
          subst her
          by_cases h6 : b6 = 0
          · have h7 : (b7 == 0) = false := by simp; omega
            subst h6
            rcases h45 with rfl | rfl
            · go_wp2_with fail
              refine (ev.known _).mono ?_
              rintro x w9 ⟨rfl, o9⟩
              have HB := hid (HBF.out.trans o9); clear o9
              go_wp2
              go_ret
              exact ⟨rfl, HB.out⟩
            · go_wp2_with fail
              refine (ev.known _).mono ?_
              rintro x w9 ⟨rfl, o9⟩
              have HB := hid (HBF.out.trans o9); clear o9
              go_wp2
              go_ret
              exact ⟨rfl, HB.out⟩
          · have h6' : (b6 == 0) = false := by simpa using h6
            rcases h45 with rfl | rfl
            · go_wp2_with fail
              refine (ev.known _).mono ?_
              rintro x w9 ⟨rfl, o9⟩
              have HB := hid (HBF.out.trans o9); clear o9
              go_wp2
              go_ret
              exact ⟨rfl, HB.out⟩
            · go_wp2_with fail
              refine (ev.known _).mono ?_
              rintro x w9 ⟨rfl, o9⟩
              have HB := hid (HBF.out.trans o9); clear o9
              go_wp2
              go_ret
              exact ⟨rfl, HB.out⟩
      · have he2 : (er != 0) = true := by simpa using her
        have he1 : (er == 0) = false := by simpa using her
        clear HN
        by_cases h6 : b6 = 0
        · subst h6
          by_cases h7 : b7 = 0
          · subst h7
            go_wp2_with fail
            refine (ev.known _).mono ?_
            rintro x w9 ⟨rfl, o9⟩
            have HB := hid (HBF.out.trans o9); clear o9
            go_wp2
            go_ret
            exact ⟨rfl, HB.out⟩
          · have h7' : (b7 == 0) = false := by simpa using h7
            go_wp2_with fail
            refine (ev.known _).mono ?_
            rintro x w9 ⟨rfl, o9⟩
            have HB := hid (HBF.out.trans o9); clear o9
            go_wp2
            go_ret
            exact ⟨rfl, HB.out⟩
        · have h6' : (b6 == 0) = false := by simpa using h6
          go_wp2_with fail
          refine (ev.known _).mono ?_
          rintro x w9 ⟨rfl, o9⟩
          have HB := hid (HBF.out.trans o9); clear o9
          go_wp2
          go_ret
          exact ⟨rfl, HB.out⟩
    · have hyb : (y == 0) = false := by simpa using hy0
      have hxr := oct.xor_ne xb y hx (by omega) (by omega)
      have HV : Hid (0 ≤ bits .xor .u8 xb y ∧ bits .xor .u8 xb y ≤ 255) := hid ⟨hxr.1, hxr.2.1⟩
      have HN := hid (HG.out (bits .xor .u8 xb y) ⟨hxr.1, hxr.2.1⟩ hxr.2.2)
      clear hxr
      go_wp2_with fail
      generalize bits .xor .u8 xb y = vb at *
      have HE2 := hid (HEN.out.set i0 vb (hlp.u8wf HV.out))
      have HB := hid (HB.out.setCell (p := ⟨g, i0, none⟩) (Or.inr (by show w.heap.size ≤ g; omega)) (.int .u8 vb))
      have z6 := HE2.out.cellD 6 (by omega)
      have z7 := HE2.out.cellD 7 (by omega)
      have Z6 := hid z6; have Z7 := hid z7; clear z6 z7
      generalize hb6 : (en.set i0 vb).getD 6 0 = b6 at *
      generalize hb7 : (en.set i0 vb).getD 7 0 = b7 at *
      clear hb6 hb7
      refine (dec1 _ fr to (some ⟨g, 0, none⟩) LL cap (en.set i0 vb) HE2.out.rd (by simp) (by omega) (by omega)).mono ?_
      rintro x w5 ⟨v5, rfl, hv5, o5⟩
      have hgd : ∃ a b c2 d, dG fr to (en.set i0 vb) v5 = .agg #[.int .u32 a, .int .i64 b, .int .u32 c2, .int .i64 d, v5] := by
        unfold dG
        split <;> exact ⟨_, _, _, _, rfl⟩
      obtain ⟨a9, b9, c9, d9, hg1⟩ := hgd
      rw [hg1]
      obtain ⟨A5, cap5, ev5, _, _, _, _⟩ := hv5.slice
      subst ev5
      have q6 := o5.keep Z6.out
      have q7 := o5.keep Z7.out
      have hg5 : g < w5.heap.size := block_lt_of_cell q6
      have hg6 : ¬ g = w5.heap.size := by omega
      have HB := hid (HB.out.trans o5)
      clear hv5 o5 hg1 Z6 Z7 c0 f0
      generalize dE fr to (en.set i0 vb) = er at *
      generalize (dD fr to (en.set i0 vb)).length = dl at *
      have HBF := hid (HB.out.alloc (.cells #[.int .u32 a9, .int .i64 b9, .int .u32 c9, .int .i64 d9, .slice A5 dl cap5] 32))
      have hgl := HE2.out.base_le
      by_cases her : er = 0
      · by_cases hz : b6 = 0 ∧ b7 = 0
        · obtain ⟨rfl, rfl⟩ := hz
          subst her
          clear HN
          go_wp2_with fail
          refine (ev.known _).mono ?_
          rintro x w9 ⟨rfl, o9⟩
          have HB := hid (HBF.out.trans o9); clear o9
          go_wp2
          go_ret
          exact ⟨rfl, HB.out⟩
        · have h45 : i0 = 4 ∨ i0 = 5 := by have := HN.out; omega
          clear HN
          subst her
          by_cases h6 : b6 = 0
          · have h7 : (b7 == 0) = false := by simp; omega
            subst h6
            rcases h45 with rfl | rfl
            · go_wp2_with fail
              refine (ev.known _).mono ?_
              rintro x w9 ⟨rfl, o9⟩
              have HB := hid (HBF.out.trans o9); clear o9
              go_wp2
              go_ret
              exact ⟨rfl, HB.out⟩
            · go_wp2_with fail
              refine (ev.known _).mono ?_
              rintro x w9 ⟨rfl, o9⟩
              have HB := hid (HBF.out.trans o9); clear o9
              go_wp2
              go_ret
              exact ⟨rfl, HB.out⟩
          · have h6' : (b6 == 0) = false := by simpa using h6
            rcases h45 with rfl | rfl
            · go_wp2_with fail
              refine (ev.known _).mono ?_
              rintro x w9 ⟨rfl, o9⟩
              have HB := hid (HBF.out.trans o9); clear o9
              go_wp2
              go_ret
              exact ⟨rfl, HB.out⟩
            · go_wp2_with fail
              refine (ev.known _).mono ?_
              rintro x w9 ⟨rfl, o9⟩
              have HB := hid (HBF.out.trans o9); clear o9
              go_wp2
              go_ret
              exact ⟨rfl, HB.out⟩
      · have he2 : (er != 0) = true := by simpa using her
        have he1 : (er == 0) = false := by simpa using her
        clear HN
        by_cases h6 : b6 = 0
        · subst h6
          by_cases h7 : b7 = 0
          · subst h7
            go_wp2_with fail
            refine (ev.known _).mono ?_
            rintro x w9 ⟨rfl, o9⟩
            have HB := hid (HBF.out.trans o9); clear o9
            go_wp2
            go_ret
            exact ⟨rfl, HB.out⟩
          · have h7' : (b7 == 0) = false := by simpa using h7
            go_wp2_with fail
            refine (ev.known _).mono ?_
            rintro x w9 ⟨rfl, o9⟩
            have HB := hid (HBF.out.trans o9); clear o9
            go_wp2
            go_ret
            exact ⟨rfl, HB.out⟩
        · have h6' : (b6 == 0) = false := by simpa using h6
          go_wp2_with fail
          refine (ev.known _).mono ?_
          rintro x w9 ⟨rfl, o9⟩
          have HB := hid (HBF.out.trans o9); clear o9
          go_wp2
          go_ret
          exact ⟨rfl, HB.out⟩
theorem turned (w : World) (fr fp to tp at' y : Int) (A : Option Addr) (n c : Nat) (l : List Int) (hl : Rd .u8 w A n l) (hc0 : A = none → c = 0) (h1 : 0 ≤ fr ∧ fr ≤ 4294967295) (h2 : 0 ≤ to ∧ to ≤ 4294967295) (hy : 0 ≤ y ∧ y ≤ 255) :
    Calls Try.prog 7 #[.agg #[.int .u32 fr, .int .i64 fp, .int .u32 to, .int .i64 tp, .slice A n c], .int .i64 at', .int .u8 y] w (fun e w' => e = .returned (.bool true) ∧ Only [] w w') := by
  have OB : Hid (Ob (w.alloc (.cells #[.int .u32 fr, .int .i64 fp, .int .u32 to, .int .i64 tp, .slice A n c] 32)) w.heap.size 32 #[.int .u32 fr, .int .i64 fp, .int .u32 to, .int .i64 tp, .slice A n c]) := hid (Ob.new _ _ _)
  have HB : Hid (Only [] w (w.alloc (.cells #[.int .u32 fr, .int .i64 fp, .int .u32 to, .int .i64 tp, .slice A n c] 32))) := hid ((Only.refl [] w).alloc _)
  by_cases hn : n > 2000
  · have hn' : (n : Int) > 2000 := by omega
    go_enter Try.func7, Try.ntmps7
    go_wp2
    go_ret
    exact ⟨rfl, HB.out⟩
  · by_cases hg : Good fp tp
    · have hr1 := Int.tmod_lt_of_pos at' (show (0 : Int) < ((8 + n : Nat) : Int) by omega)
      have hr2 : -((8 + n : Nat) : Int) < at'.tmod ((8 + n : Nat) : Int) := by
        have := Int.lt_tmod_of_pos at' (show (0 : Int) < ((8 + n : Nat) : Int) by omega)
        omega
      by_cases hp : 0 ≤ at'.tmod ((8 + n : Nat) : Int)
      · exact turnedOk w fr fp to tp at' y A n c l (at'.tmod ((8 + n : Nat) : Int)).toNat (8 + n) hl hc0 (by omega) hg rfl h1 h2 hy (by omega) (.inl (by omega))
      · exact turnedOk w fr fp to tp at' y A n c l (at'.tmod ((8 + n : Nat) : Int) + ((8 + n : Nat) : Int)).toNat (8 + n) hl hc0 (by omega) hg rfl h1 h2 hy (by omega) (.inr (by omega))
    · have hn' : ¬ (n : Int) > 2000 := by omega
      have HL := hid hl; clear hl
      go_enter Try.func7, Try.ntmps7
      go_wp2_with (first
        | (refine wp_loadOb rfl 32 (.tmp 3) rfl w.heap.size rfl _ 32 OB.out Try.underlying32 rfl (by kernel_rfl) ?_; try simp only [Act.put, List.setIfInBounds_toArray, List.set_cons_zero, List.set_cons_succ])
        | fail)
      refine (encAny _ fr fp to tp A n c l 1 [] (HL.out.only_nil HB.out) hc0 (.bad hg)).mono ?_
      rintro x w2 ⟨v2, rfl, hv2, o2⟩
      have HB := hid (HB.out.trans o2)
      obtain ⟨A2, cap2, ev2, _, _, _, _⟩ := hv2.slice
      subst ev2
      clear hv2 o2
      go_wp2_with fail
      refine (ev.known _).mono ?_
      rintro x w9 ⟨rfl, o9⟩
      have HB := hid (HB.out.trans o9); clear o9
      go_wp2
      go_ret
      exact ⟨rfl, HB.out⟩
end Go.Proofs.Ytnhakcgkhhficaa.udp
