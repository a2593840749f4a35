/-
  Chapter 21 (name): what is known; the law NameLoops, by a walk of each text. Conditions: none but those typed.
-/
import Derived.Test.YtfoecnlbiaiibaaNamV
namespace Go.Proofs.Ytfoecnlbiaiibaa.nam
set_option linter.unusedVariables false
set_option linter.unusedSimpArgs false
open Go.ChangeShapes Go.WideShapes Go.ChangeAt Go.RowKit Go.IntWalk Go.Lib
theorem unp_known : unp [1, 97, 0, 1, 98, 192, 0] 3 = ([98, 46, 97], 7, 0) := by decide
set_option maxHeartbeats 1000000 in
theorem known21 (w : World) : Calls Try.prog 13 #[] w fun x w' => x = .returned (.bool true) ∧ Only [] w w' := by
  have OB : Hid (Ob (w.alloc (.cells #[.int .u8 1, .int .u8 97, .int .u8 0, .int .u8 1, .int .u8 98, .int .u8 192, .int .u8 0] 5)) w.heap.size 5 #[.int .u8 1, .int .u8 97, .int .u8 0, .int .u8 1, .int .u8 98, .int .u8 192, .int .u8 0]) := hid (Ob.new _ _ _)
  have QB : Hid (Only [] w (w.alloc (.cells #[.int .u8 1, .int .u8 97, .int .u8 0, .int .u8 1, .int .u8 98, .int .u8 192, .int .u8 0] 5))) := hid ((Only.refl _ _).alloc _)
  have HR : Hid (Rd .u8 (w.alloc (.cells #[.int .u8 1, .int .u8 97, .int .u8 0, .int .u8 1, .int .u8 98, .int .u8 192, .int .u8 0] 5)) (some ⟨w.heap.size, 0, none⟩) 7 [1, 97, 0, 1, 98, 192, 0]) := hid ⟨rfl, by decide, fun _ => ⟨w.heap.size, 0, rfl, fun j hj => by
    rw [Nat.zero_add, OB.out.cell j]
    obtain rfl | rfl | rfl | rfl | rfl | rfl | rfl : j = 0 ∨ j = 1 ∨ j = 2 ∨ j = 3 ∨ j = 4 ∨ j = 5 ∨ j = 6 := by omega
    all_goals rfl⟩⟩
  have HS : Hid (sm ⟨#[65, 46, 98]⟩ ⟨#[97, 46, 66]⟩ = true) := hid (by rw [sm_eq, lw_eq, lw_eq]; rfl)
  go_enter Try.func13, Try.ntmps13
  go_wp2_with fail
  refine (unpL _ _ 7 7 _ 3 HR.out (by omega) (by unfold maxLen; omega) (by omega)).mono ?_
  rintro x w1 ⟨rfl, o1⟩
  rw [unp_known]
  have Q1 := hid (QB.out.trans o1); clear o1
  have e1 : strOfNums [98, 46, 97] = ⟨#[98, 46, 97]⟩ := rfl
  rw [e1]
  go_wp2_with fail
  refine (same1 _ ⟨#[65, 46, 98]⟩ ⟨#[97, 46, 66]⟩ (by decide) (by decide)).mono ?_
  rintro x w2 ⟨rfl, o2⟩
  rw [HS.out]
  have Q2 := hid (Q1.out.trans o2); clear o2
  go_wp2_with fail
  go_ret
  exact ⟨rfl, Q2.out⟩
set_option maxRecDepth 100000 in
set_option maxHeartbeats 4000000 in
theorem loops (w : World) (A : Option Addr) (n c : Nat) (B : List Int) (fr to : Int) (hB : Rd .u8 w A n B) (hA : A = none → c = 0) (hto : -9223372036854775808 ≤ to ∧ to ≤ 9223372036854775807) : Calls Try.prog 4 #[.slice A n c, .int .i64 fr, .int .i64 to] w fun x w' => x = .returned (.bool true) ∧ Only [] w w' := by
  have HL := hid hB; have HLen := hid hB.len
  have QB : Hid (Only [] w w) := hid (Only.refl _ _)
  clear hB
  by_cases hn : n ≤ 200
  · have hn0 : ¬ (200 : Int) < n := by omega
    have V0 : Hid (Own .u8 5 (w.alloc (.cells #[] 5)) w.heap.size (.slice (some ⟨w.heap.size, 0, none⟩) 0 0) []) := hid (Own.lit .u8 5 w w.heap.size [] #[] 0 rfl rfl (Nat.le_refl _) (by simp) (by simp))
    have Q0 : Hid (Only [] w (w.alloc (.cells #[] 5))) := hid ((Only.refl _ _).alloc _)
    go_enter Try.func4, Try.ntmps4
    go_wp2_with (at_builtin; refine wpList_app _ rfl (.tmp 19) (.tmp 20) _ rfl elemB w.heap.size _ [] rfl V0.out A n c B rfl (HL.out.only_nil Q0.out) hA (by first | omega | (simp; omega)) (by unfold maxLen; first | omega | (simp; omega)) Q0.out.size ?_)
    intro v1 w1 hv1 hg1 hb1
    have Q1 := hid (Q0.out.own_grown V0.out hg1 (Nat.le_refl _))
    have V1 : Hid (Own .u8 5 w1 w.heap.size v1 B) := hid (by simpa using hv1)
    clear hv1 hg1 hb1
    have OB : Hid (Ob (w1.alloc (.cells #[.int .u8 192, .int .u8 0] 5)) w1.heap.size 5 #[.int .u8 192, .int .u8 0]) := hid (Ob.new _ _ _)
    have HR : Hid (Rd .u8 (w1.alloc (.cells #[.int .u8 192, .int .u8 0] 5)) (some ⟨w1.heap.size, 0, none⟩) 2 [192, 0]) := hid ⟨rfl, by decide, fun _ => ⟨w1.heap.size, 0, rfl, fun j hj => by
      rw [Nat.zero_add, OB.out.cell j]
      obtain rfl | rfl : j = 0 ∨ j = 1 := by omega
      all_goals rfl⟩⟩
    have V1a : Hid (Own .u8 5 (w1.alloc (.cells #[.int .u8 192, .int .u8 0] 5)) w.heap.size v1 B) := hid (V1.out.alloc _)
    have Q1a : Hid (Only [] w (w1.alloc (.cells #[.int .u8 192, .int .u8 0] 5))) := hid (Q1.out.alloc _)
    have hbl : B.length ≤ 200 := by rw [HLen.out]; exact hn
    go_wp2_with (at_builtin; refine wpList_app _ rfl (.tmp 21) (.tmp 22) _ rfl elemB w.heap.size _ B rfl V1a.out (some ⟨w1.heap.size, 0, none⟩) 2 2 [192, 0] rfl HR.out (by intro e; cases e) (by omega) (by unfold maxLen; omega) Q1a.out.size ?_)
    intro v2 w2 hv2 hg2 hb2
    have Q2 := hid (Q1a.out.own_grown V1a.out hg2 (Nat.le_refl _))
    have V2 := hid hv2
    clear hv2 hg2 hb2 hbl
    obtain ⟨gx, cx, hx⟩ : ∃ gx cx, v2 = .slice (some ⟨gx, 0, none⟩) (n + 2) cx := by
      obtain ⟨g, cap, e, _⟩ := V2.out.form (by simp)
      exact ⟨g, cap, by rw [e, List.length_append, HLen.out]; rfl⟩
    subst hx
    obtain ⟨r, hr⟩ : ∃ r, to.tmod ((n : Int) + 2 + 60) = r := ⟨_, rfl⟩
    have hr1 : -((n : Int) + 62) < r ∧ r < (n : Int) + 62 := by
      have h1 := Int.tmod_lt_of_pos to (show (0 : Int) < (n : Int) + 2 + 60 by omega)
      have h2 := Int.lt_tmod_of_pos to (show (0 : Int) < (n : Int) + 2 + 60 by omega)
      omega
    by_cases hr0 : r < 0
    · obtain ⟨K, hK⟩ : ∃ K, r + ((n : Int) + 2) + 60 = K := ⟨_, rfl⟩
      have hK0 : 0 ≤ K := by omega
      have hK1 : K < (n : Int) + 62 := by omega
      have k1 : (0 : Int) ≤ K / 256 ∧ K / 256 ≤ 1 := by omega
      have k2 : (0 : Int) ≤ K % 256 ∧ K % 256 ≤ 255 := by omega
      have c0 := V2.out.cellD n (by omega)
      have c1 := V2.out.cellD (n + 1) (by omega)
      have f0 := V2.out.frozen n
      have f1 := V2.out.frozen (n + 1)
      have hnx : (n : Int) < (n : Int) + 2 := by omega
      have hnx1 : (n : Int) + 1 < (n : Int) + 2 := by omega
      have hcl := V2.out.len
      have HCap : Hid (n + 2 ≤ cx ∧ cx ≤ maxLen) := hid hcl.2
      have V3 : Hid (Own .u8 5 ((w2.setCell ⟨gx, n, none⟩ (.int .u8 (192 + K / 256))).setCell ⟨gx, n + 1, none⟩ (.int .u8 (K % 256))) w.heap.size (.slice (some ⟨gx, 0, none⟩) (n + 2) cx) (((B ++ [192, 0]).set n (192 + K / 256)).set (n + 1) (K % 256))) := hid ((V2.out.set n _ ((Lit.wf_int_iff .u8 _).2 ⟨by show (0 : Int) ≤ 192 + K / 256; omega, by show 192 + K / 256 ≤ (255 : Int); omega⟩)).set (n + 1) _ ((Lit.wf_int_iff .u8 _).2 ⟨by show (0 : Int) ≤ K % 256; omega, by show K % 256 ≤ (255 : Int); omega⟩))
      have hgx := (V2.out.lt gx rfl).1
      have Q3 : Hid (Only [] w ((w2.setCell ⟨gx, n, none⟩ (.int .u8 (192 + K / 256))).setCell ⟨gx, n + 1, none⟩ (.int .u8 (K % 256)))) := hid ((Q2.out.setCell (p := ⟨gx, n, none⟩) (.inr hgx) _).setCell (p := ⟨gx, n + 1, none⟩) (.inr hgx) _)
      clear hcl hgx
      have hXl : Hid ((((B ++ [192, 0]).set n (192 + K / 256)).set (n + 1) (K % 256)).length = n + 2) := hid (by rw [List.length_set, List.length_set, List.length_append, HLen.out]; rfl)
      have hX0 : Hid ((((B ++ [192, 0]).set n (192 + K / 256)).set (n + 1) (K % 256)).getD n 0 = 192 + K / 256) := hid (by
        rw [gd_set _ _ _ _ (by rw [List.length_set, List.length_append, HLen.out]; simp), if_neg (by omega), gd_set _ _ _ _ (by rw [List.length_append, HLen.out]; simp), if_pos rfl])
      have hX1 : Hid ((((B ++ [192, 0]).set n (192 + K / 256)).set (n + 1) (K % 256)).getD (n + 1) 0 = K % 256) := hid (by
        rw [gd_set _ _ _ _ (by rw [List.length_set, List.length_append, HLen.out]; simp), if_pos rfl])
      obtain ⟨X, hX⟩ : ∃ X, ((B ++ [192, 0]).set n (192 + K / 256)).set (n + 1) (K % 256) = X := ⟨_, rfl⟩
      rw [hX] at V3 hXl hX0 hX1
      have hTg : Hid (tgt X n = K.toNat) := hid (by unfold tgt; rw [hX0.out, hX1.out]; omega)
      clear hX
      go_wp2_with fail
      refine (unpL _ _ (n + 2) cx X n V3.out.rd HCap.out.1 HCap.out.2 (by omega)).mono ?_
      rintro x w4 ⟨rfl, o4⟩
      have V4 := hid (V3.out.only_nil o4)
      have Q4 := hid (Q3.out.trans o4); clear o4
      by_cases hk : (n : Int) ≤ K
      · have hu : unp X (n : Int) = ([], 0, 10) := by rw [unp_in (by rw [hXl.out]; omega)]; exact u_jloop (by rw [hXl.out]; omega) (by rw [hX0.out]; omega) (by rw [hTg.out]; omega)
        rw [hu]
        clear c0 c1 f0 f1 hu
        go_wp2_with fail
        refine (known21 _).mono ?_
        rintro x w9 ⟨rfl, o9⟩
        have Q9 := hid (Q4.out.trans o9); clear o9
        go_wp2_with fail
        go_ret
        exact ⟨rfl, Q9.out⟩
      · obtain ⟨⟨u1, u2, u3⟩, hu⟩ : ∃ R, unp X (n : Int) = R := ⟨_, rfl⟩
        rw [hu]
        have HU := hid hu
        clear c0 c1 f0 f1 hu
        go_wp2_with fail
        refine (unpD _ _ (n + 2) cx X n V4.out.rd HCap.out.1 HCap.out.2 (by omega)).mono ?_
        rintro x w5 ⟨rfl, o5⟩
        rw [HU.out]
        have Q5 := hid (Q4.out.trans o5); clear o5
        have e3 : (u3 == u3) = true := by simp
        go_wp2_with fail
        refine (known21 _).mono ?_
        rintro x w9 ⟨rfl, o9⟩
        have Q9 := hid (Q5.out.trans o9); clear o9
        go_wp2_with fail
        go_ret
        exact ⟨rfl, Q9.out⟩
    · obtain ⟨K, hKr⟩ : ∃ K, r = K := ⟨_, rfl⟩
      subst hKr
      have hK0 : 0 ≤ r := by omega
      have hK1 : r < (n : Int) + 62 := by omega
      have k1 : (0 : Int) ≤ r / 256 ∧ r / 256 ≤ 1 := by omega
      have k2 : (0 : Int) ≤ r % 256 ∧ r % 256 ≤ 255 := by omega
      have c0 := V2.out.cellD n (by omega)
      have c1 := V2.out.cellD (n + 1) (by omega)
      have f0 := V2.out.frozen n
      have f1 := V2.out.frozen (n + 1)
      have hnx : (n : Int) < (n : Int) + 2 := by omega
      have hnx1 : (n : Int) + 1 < (n : Int) + 2 := by omega
      have hcl := V2.out.len
      have HCap : Hid (n + 2 ≤ cx ∧ cx ≤ maxLen) := hid hcl.2
      have V3 : Hid (Own .u8 5 ((w2.setCell ⟨gx, n, none⟩ (.int .u8 (192 + r / 256))).setCell ⟨gx, n + 1, none⟩ (.int .u8 (r % 256))) w.heap.size (.slice (some ⟨gx, 0, none⟩) (n + 2) cx) (((B ++ [192, 0]).set n (192 + r / 256)).set (n + 1) (r % 256))) := hid ((V2.out.set n _ ((Lit.wf_int_iff .u8 _).2 ⟨by show (0 : Int) ≤ 192 + r / 256; omega, by show 192 + r / 256 ≤ (255 : Int); omega⟩)).set (n + 1) _ ((Lit.wf_int_iff .u8 _).2 ⟨by show (0 : Int) ≤ r % 256; omega, by show r % 256 ≤ (255 : Int); omega⟩))
      have hgx := (V2.out.lt gx rfl).1
      have Q3 : Hid (Only [] w ((w2.setCell ⟨gx, n, none⟩ (.int .u8 (192 + r / 256))).setCell ⟨gx, n + 1, none⟩ (.int .u8 (r % 256)))) := hid ((Q2.out.setCell (p := ⟨gx, n, none⟩) (.inr hgx) _).setCell (p := ⟨gx, n + 1, none⟩) (.inr hgx) _)
      clear hcl hgx
      have hXl : Hid ((((B ++ [192, 0]).set n (192 + r / 256)).set (n + 1) (r % 256)).length = n + 2) := hid (by rw [List.length_set, List.length_set, List.length_append, HLen.out]; rfl)
      have hX0 : Hid ((((B ++ [192, 0]).set n (192 + r / 256)).set (n + 1) (r % 256)).getD n 0 = 192 + r / 256) := hid (by
        rw [gd_set _ _ _ _ (by rw [List.length_set, List.length_append, HLen.out]; simp), if_neg (by omega), gd_set _ _ _ _ (by rw [List.length_append, HLen.out]; simp), if_pos rfl])
      have hX1 : Hid ((((B ++ [192, 0]).set n (192 + r / 256)).set (n + 1) (r % 256)).getD (n + 1) 0 = r % 256) := hid (by
        rw [gd_set _ _ _ _ (by rw [List.length_set, List.length_append, HLen.out]; simp), if_pos rfl])
      obtain ⟨X, hX⟩ : ∃ X, ((B ++ [192, 0]).set n (192 + r / 256)).set (n + 1) (r % 256) = X := ⟨_, rfl⟩
      rw [hX] at V3 hXl hX0 hX1
      have hTg : Hid (tgt X n = r.toNat) := hid (by unfold tgt; rw [hX0.out, hX1.out]; omega)
      clear hX
      go_wp2_with fail
      refine (unpL _ _ (n + 2) cx X n V3.out.rd HCap.out.1 HCap.out.2 (by omega)).mono ?_
      rintro x w4 ⟨rfl, o4⟩
      have V4 := hid (V3.out.only_nil o4)
      have Q4 := hid (Q3.out.trans o4); clear o4
      by_cases hk : (n : Int) ≤ r
      · have hu : unp X (n : Int) = ([], 0, 10) := by rw [unp_in (by rw [hXl.out]; omega)]; exact u_jloop (by rw [hXl.out]; omega) (by rw [hX0.out]; omega) (by rw [hTg.out]; omega)
        rw [hu]
        clear c0 c1 f0 f1 hu
        go_wp2_with fail
        refine (known21 _).mono ?_
        rintro x w9 ⟨rfl, o9⟩
        have Q9 := hid (Q4.out.trans o9); clear o9
        go_wp2_with fail
        go_ret
        exact ⟨rfl, Q9.out⟩
      · obtain ⟨⟨u1, u2, u3⟩, hu⟩ : ∃ R, unp X (n : Int) = R := ⟨_, rfl⟩
        rw [hu]
        have HU := hid hu
        clear c0 c1 f0 f1 hu
        go_wp2_with fail
        refine (unpD _ _ (n + 2) cx X n V4.out.rd HCap.out.1 HCap.out.2 (by omega)).mono ?_
        rintro x w5 ⟨rfl, o5⟩
        rw [HU.out]
        have Q5 := hid (Q4.out.trans o5); clear o5
        have e3 : (u3 == u3) = true := by simp
        go_wp2_with fail
        refine (known21 _).mono ?_
        rintro x w9 ⟨rfl, o9⟩
        have Q9 := hid (Q5.out.trans o9); clear o9
        go_wp2_with fail
        go_ret
        exact ⟨rfl, Q9.out⟩
  · have hn0 : (200 : Int) < n := by omega
    go_enter Try.func4, Try.ntmps4
    go_wp2_with fail
    go_ret
    exact ⟨rfl, QB.out⟩
end Go.Proofs.Ytfoecnlbiaiibaa.nam
