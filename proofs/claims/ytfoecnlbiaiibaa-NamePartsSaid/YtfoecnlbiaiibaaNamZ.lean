/-
  Chapter 21 (name): the law NamePacks, by a walk of its text. Conditions: none but those typed.
-/
import Derived.Test.YtfoecnlbiaiibaaNamY
import Derived.Test.YtfoecnlbiaiibaaNamW
import Derived.Test.YtfoecnlbiaiibaaHlp21
namespace Go.Proofs.Ytfoecnlbiaiibaa.nam
set_option linter.unusedVariables false
set_option linter.unusedSimpArgs false
open Go.ChangeShapes Go.WideShapes Go.ChangeAt Go.RowKit Go.IntWalk Go.Lib
set_option maxHeartbeats 4000000 in
theorem packs1 (w : World) (s : ByteArray) (hs : s.size ≤ maxLen) (at_ : Int) : Calls Try.prog 3 #[.string s, .int .i64 at_] w fun x w' => x = .returned (.bool true) ∧ Only [] w w' := by
  by_cases h0 : 3000 < s.size
  · have h0z : (3000 : Int) < (s.size : Int) := by omega
    go_enter Try.func3, Try.ntmps3
    go_wp2_with fail
    go_ret
    exact ⟨rfl, Only.refl _ _⟩
  · have h0z : ¬ (3000 : Int) < (s.size : Int) := by omega
    have HC1 := hid (packL w s hs)
    have HC2 : Hid (∀ W, _) := hid (fun W => packD W s hs)
    have hLS : (labsOf (chs s)).length ≤ s.size + 1 := by have := labs_size (chs s); rw [chs_len] at this; exact this
    by_cases ok : s.size ≤ 253 ∧ ∀ l ∈ labsOf (chs s), okL l
    · have hP : packs (chs s) = (pk (labsOf (chs s)) ++ [0], 0) := packs_ok (by rw [chs_len]; omega) ok.2
      have HU := hid (unp_packs (chs s) (by rw [chs_len]; omega) ok.2)
      have hpl := pk_len _ ok.2
      obtain ⟨B, hB⟩ : ∃ B, pk (labsOf (chs s)) ++ [0] = B := ⟨_, rfl⟩
      obtain ⟨n, hn⟩ : ∃ n, B.length = n := ⟨_, rfl⟩
      have hbn : n = (pk (labsOf (chs s))).length + 1 := by rw [← hn, ← hB]; simp
      have hn2 : n ≤ 20000 := by omega
      have HU2 : Hid (unp B 0 = (chs s, (n : Int), 0)) := hid (by
        have h9 := HU.out
        rw [hB] at h9
        rw [hbn]
        exact h9)
      have HCB := hid (chs_back s)
      have HS : Hid ((s.toList == s.toList) = true) := hid (by simp)
      rw [hP, hB] at HC1 HC2
      have HN := hid hn
      clear hP hB HU hbn hpl ok hLS hn
      go_enter Try.func3, Try.ntmps3
      go_wp2_with fail
      refine HC1.out.mono ?_
      rintro x w1 ⟨v1, rfl, hv1, o1⟩
      have V1 := hid hv1; have Q1 := hid o1
      clear hv1 o1
      obtain ⟨A1, c1, rfl, hnc1, hcm1, _, _⟩ := V1.out.slice
      rw [HN.out] at hnc1 ⊢
      have R1 : Hid (Rd .u8 w1 A1 n B) := hid (by have h9 := V1.out.rd; rwa [HN.out] at h9)
      go_wp2_with fail
      refine (HC2.out w1).mono ?_
      rintro x w2 ⟨v2, rfl, hv2, o2⟩
      have V2 := hid hv2; have Q2 := hid (Q1.out.trans o2)
      have R1b := hid (R1.out.only_nil o2)
      clear hv2 o2
      obtain ⟨A2, c2, rfl, hnc2, hcm2, _, _⟩ := V2.out.slice
      rw [HN.out] at hnc2 ⊢
      have R2 : Hid (Rd .u8 w2 A2 n B) := hid (by have h9 := V2.out.rd; rwa [HN.out] at h9)
      go_wp2_with fail
      refine (hlp.same w2 A1 A2 n n c1 c2 B B R1b.out R2.out (by omega) (by omega)).mono ?_
      rintro x w3 ⟨rfl, q, rfl⟩
      have hd : decide (B = B) = true := decide_eq_true rfl
      rw [hd]
      have Q3 := hid (Q2.out.drewN q)
      have R3 := hid (R1b.out.only_nil ((Only.refl [] w2).drewN q))
      clear hd
      go_wp2_with fail
      refine (unpL _ A1 n c1 B 0 R3.out hnc1 hcm1 (by omega)).mono ?_
      rintro x w4 ⟨rfl, o4⟩
      rw [HU2.out]
      have Q4 := hid (Q3.out.trans o4)
      clear o4
      rw [HCB.out]
      have hss := HS.out
      go_wp2_with fail
      refine (known21 _).mono ?_
      rintro x w9 ⟨rfl, o9⟩
      have Q9 := hid (Q4.out.trans o9); clear o9
      go_wp2_with fail
      go_ret
      exact ⟨rfl, Q9.out⟩
    · have hP : packs (chs s) = ([], 9) := by
        unfold packs
        split
        · rfl
        · rename_i h9
          rw [chs_len] at h9
          rw [if_neg (fun e => ok ⟨by omega, e⟩)]
      rw [hP] at HC1 HC2
      clear hP ok hLS
      go_enter Try.func3, Try.ntmps3
      go_wp2_with fail
      refine HC1.out.mono ?_
      rintro x w1 ⟨v1, rfl, hv1, o1⟩
      have V1 := hid hv1; have Q1 := hid o1
      clear hv1 o1
      obtain ⟨A1, c1, rfl, hnc1, hcm1, _, _⟩ := V1.out.slice
      have R1 : Hid (Rd .u8 w1 A1 0 []) := hid V1.out.rd
      go_wp2_with fail
      refine (HC2.out w1).mono ?_
      rintro x w2 ⟨v2, rfl, hv2, o2⟩
      have V2 := hid hv2; have Q2 := hid (Q1.out.trans o2)
      have R1b := hid (R1.out.only_nil o2)
      clear hv2 o2
      obtain ⟨A2, c2, rfl, hnc2, hcm2, _, _⟩ := V2.out.slice
      have R2 : Hid (Rd .u8 w2 A2 0 []) := hid V2.out.rd
      go_wp2_with fail
      refine (hlp.same w2 A1 A2 0 0 c1 c2 [] [] R1b.out R2.out (by omega) (by omega)).mono ?_
      rintro x w3 ⟨rfl, q, rfl⟩
      have hd : decide (([] : List Int) = []) = true := decide_eq_true rfl
      rw [hd]
      have Q3 := hid (Q2.out.drewN q)
      clear hd
      go_wp2_with fail
      refine (known21 _).mono ?_
      rintro x w9 ⟨rfl, o9⟩
      have Q9 := hid (Q3.out.trans o9); clear o9
      go_wp2_with fail
      go_ret
      exact ⟨rfl, Q9.out⟩
end Go.Proofs.Ytfoecnlbiaiibaa.nam
