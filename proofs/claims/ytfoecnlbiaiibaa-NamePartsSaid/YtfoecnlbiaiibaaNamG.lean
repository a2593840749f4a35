/-
  Chapter 21 (name): the law NameParts, by a walk of its text. Conditions: none but those typed.
-/
import Derived.Test.YtfoecnlbiaiibaaNamQ
import Derived.Test.YtfoecnlbiaiibaaNamZ
namespace Go.Proofs.Ytfoecnlbiaiibaa.nam
set_option linter.unusedVariables false
set_option linter.unusedSimpArgs false
open Go.ChangeShapes Go.WideShapes Go.ChangeAt Go.RowKit Go.IntWalk Go.Lib
theorem rd_init {w : World} {b k : Nat} {l : List Int} (h : Rd .u8 w (some ⟨b, 0, none⟩) (k + 1) (l ++ [0])) (hk : l.length = k) : Rd .u8 w (some ⟨b, 0, none⟩) k l := by
  have h1 := h.take k (by omega)
  rwa [List.take_append_of_le_length (by omega), ← hk, List.take_length, hk] at h1
theorem own_top {b n c i : Nat} (h : (Value.slice (some ⟨b, 0, none⟩) n c).ownBlock = some i) : b ≤ i := by
  have h9 : b = i := by simpa [Value.ownBlock] using h
  omega
theorem u8_one (l : List Int) : ∀ u ∈ l.map (Value.int .u8), u.oneCell' = true := fun u hu => by
  obtain ⟨x, _, rfl⟩ := List.mem_map.1 hu
  rfl
theorem packs_no (s : ByteArray) (h : ¬ (s.size ≤ 253 ∧ ∀ l ∈ labsOf (chs s), okL l)) : packs (chs s) = ([], 9) := by
  unfold packs
  split
  · rfl
  · rename_i h9
    rw [chs_len] at h9
    rw [if_neg (fun e => h ⟨by omega, e⟩)]
set_option maxHeartbeats 4000000 in
theorem parts1 (w : World) (a b : ByteArray) (la0 : a.size ≤ maxLen) (lb0 : b.size ≤ maxLen) : Calls Try.prog 8 #[.string a, .string b] w fun x w' => x = .returned (.bool true) ∧ Only [] w w' := by
  have HC1 := hid (packL w a la0)
  have HC2 : Hid (∀ W, _) := hid (fun W => packL W b lb0)
  rw [show maxLen = 9223372036854775807 from rfl] at la0 lb0
  obtain ⟨q, hq⟩ : ∃ q, wrap64 ((a.size : Int) + (b.size : Int)) = q := ⟨_, rfl⟩
  by_cases hs : 200 < q
  · clear la0 lb0
    go_enter Try.func8, Try.ntmps8
    go_wp2_with fail
    go_ret
    exact ⟨rfl, Only.refl _ _⟩
  · have hsd : decide ((200 : Int) < q) = false := decide_eq_false hs
    have ea := str_isEmpty a _ rfl
    have eb := str_isEmpty b _ rfl
    by_cases ha0 : a.size = 0
    · rw [decide_eq_true ha0] at ea
      clear la0 lb0 eb ha0
      go_enter Try.func8, Try.ntmps8
      go_wp2_with fail
      go_ret
      exact ⟨rfl, Only.refl _ _⟩
    rw [decide_eq_false ha0] at ea
    by_cases hb0 : b.size = 0
    · rw [decide_eq_true hb0] at eb
      clear la0 lb0 hb0 ha0
      go_enter Try.func8, Try.ntmps8
      go_wp2_with fail
      go_ret
      exact ⟨rfl, Only.refl _ _⟩
    rw [decide_eq_false hb0] at eb
    by_cases oka : a.size ≤ 253 ∧ ∀ l ∈ labsOf (chs a), okL l
    · by_cases okb : b.size ≤ 253 ∧ ∀ l ∈ labsOf (chs b), okL l
      · have hsum : a.size + b.size ≤ 200 := by
          have h9 : wrap64 ((a.size : Int) + (b.size : Int)) = (a.size : Int) + (b.size : Int) := wrap64_in _ (by omega)
          omega
        have hsd2 : decide ((200 : Int) < (a.size : Int) + (b.size : Int)) = false := decide_eq_false (by omega)
        clear hsd hs hq
        have HU := hid (unp_parts (chs a) (chs b) (fun e => ha0 (by rw [← chs_len, e]; rfl)) (fun e => hb0 (by rw [← chs_len, e]; rfl)) (by rw [chs_len, chs_len]; exact hsum) oka.2 okb.2)
        have la2 := labs_size (chs a)
        have lb2 := labs_size (chs b)
        have pa := pk_len _ oka.2
        have pb := pk_len _ okb.2
        rw [chs_len] at la2 lb2
        rw [packs_ok (by rw [chs_len]; omega) oka.2] at HC1
        rw [packs_ok (by rw [chs_len]; omega) okb.2] at HC2
        have HStr : Hid (strOfNums (chs b ++ [46] ++ chs a) = b ++ ⟨#[46]⟩ ++ a) := hid (by
          rw [← strOf_app, ← strOf_app, chs_back, chs_back]
          rfl)
        have HSS : Hid (((b ++ ⟨#[46]⟩ ++ a).toList == (b ++ ⟨#[46]⟩ ++ a).toList) = true) := hid (by simp)
        obtain ⟨la, h1⟩ : ∃ la, labsOf (chs a) = la := ⟨_, rfl⟩
        obtain ⟨lb, h2⟩ : ∃ lb, labsOf (chs b) = lb := ⟨_, rfl⟩
        rw [h1] at HU HC1 la2 pa
        rw [h2] at HU HC2 lb2 pb
        obtain ⟨k1, h3⟩ : ∃ k1, (pk la).length = k1 := ⟨_, rfl⟩
        obtain ⟨k2, h4⟩ : ∃ k2, (pk lb).length = k2 := ⟨_, rfl⟩
        have HK1 := hid h3
        have HK2 := hid h4
        have hk1 : k1 ≤ 20000 := by omega
        have hk2 : k2 ≤ 20000 := by omega
        have hn1 : (pk la ++ [0]).length = k1 + 1 := by rw [List.length_append, h3]; rfl
        have hn2 : (pk lb ++ [0]).length = k2 + 1 := by rw [List.length_append, h4]; rfl
        have HN1 := hid hn1
        have hz1 : ((k1 : Int) + 1 == 0) = false := by simp; omega
        have hz2 : ((k2 : Int) + 1 == 0) = false := by simp; omega
        have HN2 := hid hn2
        clear h1 h2 la2 lb2 pa pb oka okb la0 lb0 hn1 hn2
        clear h3 h4
        go_enter Try.func8, Try.ntmps8
        go_wp2_with fail
        refine HC1.out.mono ?_
        rintro x w1 ⟨v1, rfl, hv1, o1⟩
        have V1 := hid hv1; have Q1 := hid o1
        clear hv1 o1
        obtain ⟨A1, c1, rfl, hnc1, hcm1, _, _⟩ := V1.out.slice
        rw [HN1.out] at hnc1 ⊢
        go_wp2_with fail
        refine (HC2.out w1).mono ?_
        rintro x w2 ⟨v2, rfl, hv2, o2⟩
        have V2 := hid hv2; have Q2 := hid (Q1.out.trans o2)
        have V1b := hid (V1.out.only_nil o2)
        clear hv2 o2
        obtain ⟨A2, c2, rfl, hnc2, hcm2, _, _⟩ := V2.out.slice
        rw [HN2.out] at hnc2 ⊢
        have HP2 : Hid (Rd .u8 w2 A1 (k1 + 1) (pk la ++ [0])) := hid (by have h9 := V1b.out.rd; rwa [HN1.out] at h9)
        have HQ2 : Hid (Rd .u8 w2 A2 (k2 + 1) (pk lb ++ [0])) := hid (by have h9 := V2.out.rd; rwa [HN2.out] at h9)
        obtain ⟨b1, rfl, _⟩ := row_at (by have h9 := V1b.out.1; rwa [HN1.out] at h9) (u8_one _) (by omega)
        obtain ⟨b2, rfl, _⟩ := row_at (by have h9 := V2.out.1; rwa [HN2.out] at h9) (u8_one _) (by omega)
        have hk2c : k2 ≤ c2 := by omega
        go_wp2_with fail
        refine wp_region_noPanic ?_
        refine rgn.regionT (R := AnyN) (by kernel_rfl) (fun w => AnyN.any w w) (fun _ _ _ _ _ => AnyN.any _ _) (fun _ _ _ _ _ h => h) (.y 1 (.y 3 (.y 4 (.y 5 (.y 6 (.y 7 (.e 0 (.e 2 (.e 8 (.e 9 .z)))))))))) (by kernel_rfl) (fun W hWd => ?_)
        have HWd := hid hWd; clear hWd
        have o9 : Only [] w2 W := by rw [HWd.out]; exact (Only.refl [] w2).drew
        have HPW := hid (HP2.out.only_nil o9)
        have HQW := hid (HQ2.out.only_nil o9)
        have HB2 := hid (Q2.out.trans o9)
        clear HWd HP2 HQ2 Q2 o9
        refine rgn.Walk.ys (v := ?_) rfl rfl rfl ?_ ?_
        rotate_left 1
        · intro W' hW'
          go_simp
          try with_reducible rfl
        try simp only [Act.put, List.setIfInBounds_toArray, List.set_cons_zero, List.set_cons_succ]
        refine rgn.Walk.ys (v := ?_) rfl rfl rfl ?_ ?_
        rotate_left 1
        · intro W' hW'
          go_simp
          try with_reducible rfl
        try simp only [Act.put, List.setIfInBounds_toArray, List.set_cons_zero, List.set_cons_succ]
        refine rgn.Walk.ys (v := ?_) rfl rfl rfl ?_ ?_
        rotate_left 1
        · intro W' hW'
          go_simp
          try with_reducible rfl
        try simp only [Act.put, List.setIfInBounds_toArray, List.set_cons_zero, List.set_cons_succ]
        refine rgn.Walk.ys (v := ?_) rfl rfl rfl ?_ ?_
        rotate_left 1
        · intro W' hW'
          go_simp
          try with_reducible rfl
        try simp only [Act.put, List.setIfInBounds_toArray, List.set_cons_zero, List.set_cons_succ]
        refine rgn.Walk.ys (v := ?_) rfl rfl rfl ?_ ?_
        rotate_left 1
        · intro W' hW'
          go_simp
          first | rw [wr1 k2 (by omega)] | rw [wr2 k2 (by omega)] | rw [wr3 k2 (by omega)] | skip
          try with_reducible rfl
        try simp only [Act.put, List.setIfInBounds_toArray, List.set_cons_zero, List.set_cons_succ]
        refine rgn.Walk.ys (v := ?_) rfl rfl rfl ?_ ?_
        rotate_left 1
        · intro W' hW'
          go_simp
          try with_reducible rfl
        try simp only [Act.put, List.setIfInBounds_toArray, List.set_cons_zero, List.set_cons_succ]
        refine rgn.Walk.es ?_
        refine rgn.stepE rfl rfl (fun K hK => ?_)
        go_simp
        refine hK _ _ (AnyN.any _ _) ?_
        clear hK K
        have V4 : Hid (Own .u8 5 (W.alloc (.cells #[] 5)) w.heap.size (.slice (some ⟨W.heap.size, 0, none⟩) 0 0) []) := hid ⟨own_empty W 5 1 w.heap.size HB2.out.size, by simp⟩
        have Q4 : Hid (Only [] w (W.alloc (.cells #[] 5))) := hid (HB2.out.alloc _)
        have P4 := hid (HPW.out.only_nil ((Only.refl [] W).alloc (.cells #[] 5)))
        have R4 := hid (HQW.out.only_nil ((Only.refl [] W).alloc (.cells #[] 5)))
        try simp only [Act.put, List.setIfInBounds_toArray, List.set_cons_zero, List.set_cons_succ]
        refine rgn.Walk.es ?_
        refine rgn.stepE rfl rfl (fun K hK => ?_)
        refine opApp rfl (.tmp 52) (.tmp 53) _ rfl elemB w.heap.size _ _ rfl V4.out (some ⟨b1, 0, none⟩) (k1 + 1) c1 (pk la ++ [0]) rfl P4.out (by intro e; cases e) (by simp; omega) (by unfold maxLen; simp; omega) Q4.out.size ?_
        intro v5 w5 hv5 hg5 hb5
        refine hK _ _ (AnyN.any _ _) ?_
        clear hK K
        have V5 : Hid (Own .u8 5 w5 w.heap.size v5 (pk la ++ [0])) := hid (by simpa using hv5)
        have Q5 : Hid (Only [] w w5) := hid (Q4.out.own_grown V4.out hg5 (Nat.le_refl _))
        have R5 : Hid (Rd .u8 w5 (some ⟨b2, 0, none⟩) (k2 + 1) (pk lb ++ [0])) := hid (HQW.out.only_nil (((Only.refl [] W).alloc _).of_grown hg5 (fun i hi => .inr (own_top hi))))
        clear hv5 hg5 hb5 V4 P4 R4 Q4
        try simp only [Act.put, List.setIfInBounds_toArray, List.set_cons_zero, List.set_cons_succ]
        refine rgn.Walk.es ?_
        refine rgn.stepE rfl rfl (fun K hK => ?_)
        refine opApp rfl (.tmp 54) (.tmp 59) _ rfl elemB w.heap.size _ _ rfl V5.out (some ⟨b2, 0, none⟩) k2 c2 (pk lb) rfl (rd_init R5.out HK2.out) (by intro e; cases e) (by rw [HN1.out]; omega) (by rw [HN1.out]; unfold maxLen; omega) Q5.out.size ?_
        intro v6 w6 hv6 hg6 hb6
        refine hK _ _ (AnyN.any _ _) ?_
        clear hK K
        have V6 := hid hv6
        have Q6 : Hid (Only [] w w6) := hid (Q5.out.own_grown V5.out hg6 (Nat.le_refl _))
        clear hv6 hg6 hb6 V5 R5 Q5
        try simp only [Act.put, List.setIfInBounds_toArray, List.set_cons_zero, List.set_cons_succ]
        refine rgn.Walk.es ?_
        refine rgn.stepE rfl rfl (fun K hK => ?_)
        go_simp
        refine hK _ _ ((fun w => AnyN.any w w) _) ?_
        clear hK K
        try simp only [Act.put, List.setIfInBounds_toArray, List.set_cons_zero, List.set_cons_succ]
        refine rgn.Walk.zs (NoPanic.normal ?_)
        have HLx : Hid ((pk la ++ [0] ++ (pk lb ++ [192, 0])).length = k1 + 1 + (k2 + 2)) := hid (by rw [List.length_append, HN1.out, List.length_append, HK2.out]; rfl)
        have HLy : Hid ((pk la ++ [0] ++ pk lb).length = k1 + 1 + k2) := hid (by rw [List.length_append, HN1.out, HK2.out])
        have HOa : Hid (Own .u8 5 (w6.alloc (.cells #[.int .u8 192, .int .u8 0] 5)) w.heap.size v6 (pk la ++ [0] ++ pk lb)) := hid (V6.out.alloc _)
        have HBa : Hid (Only [] w (w6.alloc (.cells #[.int .u8 192, .int .u8 0] 5))) := hid (Q6.out.alloc _)
        have HRa : Hid (Rd .u8 (w6.alloc (.cells #[.int .u8 192, .int .u8 0] 5)) (some ⟨w6.heap.size, 0, none⟩) 2 [192, 0]) := hid (Own.lit .u8 5 w6 w.heap.size [192, 0] _ 2 rfl rfl Q6.out.size (by simp [maxLen]) (by decide)).rd
        go_wp2_with (at_builtin; refine wpList_app _ rfl (.tmp 61) (.tmp 62) _ rfl elemB w.heap.size _ (pk la ++ [0] ++ pk lb) rfl HOa.out (some ⟨w6.heap.size, 0, none⟩) 2 2 [192, 0] rfl HRa.out (by intro e; cases e) (by rw [HLy.out]; omega) (by rw [HLy.out]; unfold maxLen; omega) HBa.out.size ?_)
        intro v7 w7 hv7 hg7 hb7
        have Q7 := hid (HBa.out.own_grown HOa.out hg7 (Nat.le_refl _))
        have V7 : Hid (Own .u8 5 w7 w.heap.size v7 (pk la ++ [0] ++ (pk lb ++ [192, 0]))) := hid (by simpa using hv7)
        clear hv7 hg7 hb7 V6 Q6
        obtain ⟨A7, c7, rfl, hnc7, hcm7, _, _⟩ := V7.out.slice
        obtain ⟨X, hX⟩ : ∃ X, pk la ++ [0] ++ (pk lb ++ [192, 0]) = X := ⟨_, rfl⟩
        have HU2 : Hid (unp X (((k1 + 1 : Nat)) : Int) = (chs b ++ [46] ++ chs a, ((k1 + 1 + (k2 + 2) : Nat) : Int), 0)) := hid (by have h9 := HU.out; rwa [HLx.out, HN1.out, hX] at h9)
        have HLX : Hid (X.length = k1 + 1 + (k2 + 2)) := hid (by rw [← hX]; exact HLx.out)
        rw [hX] at V7 hnc7 ⊢
        rw [HLX.out] at hnc7 ⊢
        have R7 : Hid (Rd .u8 w7 A7 (k1 + 1 + (k2 + 2)) X) := hid (by have h9 := V7.out.rd; rwa [HLX.out] at h9)
        clear hX HU HLx HLy
        go_wp2_with fail
        refine (unpL _ A7 (k1 + 1 + (k2 + 2)) c7 X ((k1 : Int) + 1) R7.out hnc7 hcm7 (by omega)).mono ?_
        rintro x w8 ⟨rfl, o8⟩
        have Q8 := hid (Q7.out.trans o8)
        clear o8
        rw [show ((k1 : Int) + 1) = ((k1 + 1 : Nat) : Int) from by omega, HU2.out]
        simp only [HStr.out]
        have hss := HSS.out
        go_wp2_with fail
        refine (known21 _).mono ?_
        rintro x w9 ⟨rfl, o9⟩
        have Q9 := hid (Q8.out.trans o9); clear o9
        go_wp2_with fail
        go_ret
        exact ⟨rfl, Q9.out⟩
      · rw [packs_no b okb] at HC2
        rw [packs_ok (by rw [chs_len]; omega) oka.2] at HC1
        clear oka okb la0 lb0
        go_enter Try.func8, Try.ntmps8
        go_wp2_with fail
        refine HC1.out.mono ?_
        rintro x w1 ⟨v1, rfl, hv1, o1⟩
        have V1 := hid hv1; have Q1 := hid o1
        clear hv1 o1
        obtain ⟨A1, c1, rfl, hnc1, hcm1, _, _⟩ := V1.out.slice
        go_wp2_with fail
        refine (HC2.out w1).mono ?_
        rintro x w2 ⟨v2, rfl, hv2, o2⟩
        have V2 := hid hv2; have Q2 := hid (Q1.out.trans o2)
        have V1b := hid (V1.out.only_nil o2)
        clear hv2 o2
        obtain ⟨A2, c2, rfl, hnc2, hcm2, _, _⟩ := V2.out.slice
        go_wp2_with fail
        refine (known21 _).mono ?_
        rintro x w9 ⟨rfl, o9⟩
        have Q9 := hid (Q2.out.trans o9); clear o9
        go_wp2_with fail
        go_ret
        exact ⟨rfl, Q9.out⟩
    · rw [packs_no a oka] at HC1
      obtain ⟨⟨PB1, PB2⟩, hPB⟩ : ∃ P, packs (chs b) = P := ⟨_, rfl⟩
      rw [hPB] at HC2
      clear oka la0 lb0 hPB
      go_enter Try.func8, Try.ntmps8
      go_wp2_with fail
      refine HC1.out.mono ?_
      rintro x w1 ⟨v1, rfl, hv1, o1⟩
      have V1 := hid hv1; have Q1 := hid o1
      clear hv1 o1
      obtain ⟨A1, c1, rfl, hnc1, hcm1, _, _⟩ := V1.out.slice
      go_wp2_with fail
      refine (HC2.out w1).mono ?_
      rintro x w2 ⟨v2, rfl, hv2, o2⟩
      have V2 := hid hv2; have Q2 := hid (Q1.out.trans o2)
      have V1b := hid (V1.out.only_nil o2)
      clear hv2 o2
      obtain ⟨A2, c2, rfl, hnc2, hcm2, _, _⟩ := V2.out.slice
      go_wp2_with fail
      refine (known21 _).mono ?_
      rintro x w9 ⟨rfl, o9⟩
      have Q9 := hid (Q2.out.trans o9); clear o9
      go_wp2_with fail
      go_ret
      exact ⟨rfl, Q9.out⟩
end Go.Proofs.Ytfoecnlbiaiibaa.nam
