/-
  Chapter 21 (name): Unpack of rows of any length up to a thousand million; what Pack wrote is read wherever it stands. Conditions: none but those typed.
-/
import Derived.Test.YtfoecnlbiaiibaaNamHs
import Derived.Test.YtfoecnlbiaiibaaNamY
import Derived.Deep.LoopGhost
namespace Go.Proofs.Ytfoecnlbiaiibaa.nam
set_option linter.unusedVariables false
set_option linter.unusedSimpArgs false
open Go.ChangeShapes Go.WideShapes Go.ChangeAt Go.RowKit Go.IntWalk Go.Lib
set_option maxRecDepth 100000 in
set_option maxHeartbeats 8000000 in
theorem unpL2 (w : World) (A : Option Addr) (n c : Nat) (B : List Int) (at_ : Int) (hB : Rd .u8 w A n B) (hnc : n ≤ c) (hcm : c ≤ maxLen) (hn : n ≤ 1000000000) : Calls Try.prog 14 #[.slice A n c, .int .i64 at_] w fun x w' => x = .returned (.tuple #[.string (strOfNums (unp B at_).1), .int .i64 (unp B at_).2.1, .int .i64 (unp B at_).2.2]) ∧ Only [] w w' := by
  have HL := hid hB
  have HLen := hid hB.len
  unfold maxLen at hcm
  have HB0 : Hid (Only [] w w) := hid (Only.refl _ _)
  clear hB
  by_cases h1 : at_ < 0
  · have HE : Hid (unp B at_ = ([], 0, 2)) := hid (by unfold unp; rw [if_pos (.inl h1)])
    go_enter Try.func14, Try.ntmps14
    go_wp2_with fail
    try go_step3
    try go_wp2_with fail
    try rw [Exit.noGoto_ret]
    go_ret3
    exact ⟨by rw [HE.out]; rfl, HB0.out⟩
  · obtain ⟨k, rfl⟩ : ∃ k : Nat, at_ = k := ⟨at_.toNat, by omega⟩
    by_cases h2 : k < n
    · have HTop := hid (meas_top h2)
      have hR := unp_in (B := B) (k := k) (by rw [HLen.out]; exact h2)
      rw [HLen.out] at hR
      have HR0 := hid hR
      obtain ⟨⟨r1, r2, r3⟩, hRR⟩ : ∃ R, unp B (k : Int) = R := ⟨_, rfl⟩
      rw [hRR]
      rw [hRR] at HR0
      have HR1 : Hid (unpF B (n * (n + 2) + n + 1) k k (-1) [] = (r1, r2, r3)) := hid HR0.out.symm
      clear hR HR0 hRR h1
      obtain ⟨top, htop⟩ : ∃ top, n * (n + 2) + n + 1 = top := ⟨_, rfl⟩
      rw [htop] at HTop HR1
      clear htop
      have h3 : ¬ (n : Int) ≤ (k : Int) := by omega
      have hk0 : decide ((k : Int) < 0) = false := by simp
      have hk1 : decide (n ≤ k) = false := decide_eq_false (by omega)
      go_enter Try.func14, Try.ntmps14
      go_wp2_with fail
      go_step3
      go_wp2_with fail
      go_step3
      go_wp2_with fail
      go_loopg [1, 7, 8, 9, 10, 11] top (fun gk va vo vc vp vb ve wr => ∃ (p i : Nat) (bh : Int) (out : List Int) (cnt : Int), va = .int .i64 i ∧ vp = .int .i64 p ∧ vb = .int .i64 bh ∧ vc = .int .i64 cnt ∧ ve = .int .i64 2 ∧ i ≤ n ∧ p < n ∧ Hid (meas n p i < gk) ∧ -1 ≤ bh ∧ bh ≤ 2000000000 ∧ 0 ≤ cnt ∧ cnt ≤ out.length ∧ out.length ≤ 253 ∧ Hid (cnt = 0 → out = []) ∧ Hid (Own .u8 5 wr w.heap.size vo out) ∧ Hid (unpF B gk p i bh out = (r1, r2, r3)) ∧ Hid (Only [] w wr))
      case atStart => exact ⟨k, k, -1, [], 0, rfl, rfl, rfl, rfl, rfl, by omega, h2, HTop, by omega, by omega, by omega, by simp, by simp, hid (fun _ => rfl), hid (Own.nil _ _ _ _), HR1, HB0⟩
      case round =>
        clear HTop HR1 HB0
        obtain ⟨p, i, bh, out, cnt, rfl, rfl, rfl, rfl, rfl, hi, hp, HM, hb1, hb2, hc0, hc1, ho, HCn, HO, HU, HB⟩ := hrel
        cases gk with
        | zero => exact absurd HM.out (by omega)
        | succ f =>
          by_cases hlt : i < n
          · have hlz : (i : Int) < n := by omega
            obtain ⟨b, off, rfl, _, hcB⟩ := HL.out.at_ (by omega)
            have q0 := HB.out.keep (hcB i hlt)
            have hcb := u8Bd (HL.out.getD_wf i hlt)
            obtain ⟨cv, hcv⟩ : ∃ cv, B.getD i 0 = cv := ⟨_, rfl⟩
            rw [hcv] at q0 hcb
            have HC := hid hcv
            clear hcv
            by_cases c0 : cv = 0
            · subst c0
              obtain ⟨Ao, co, rfl, hRd, hA⟩ := own_form HO.out
              have hcvt := convRd wr Ao out.length co out hRd hA
              clear hRd hA
              by_cases hbh : bh < 0
              · obtain ⟨rfl, rfl, rfl⟩ : r1 = out ∧ r2 = (i : Int) + 1 ∧ r3 = 0 := by
                  have h9 := HU.out
                  rw [u_zero (by rw [HLen.out]; omega) HC.out, if_pos hbh] at h9
                  simp only [Prod.mk.injEq] at h9
                  exact ⟨h9.1.symm, h9.2.1.symm, h9.2.2.symm⟩
                clear HU
                go_wp2_with fail
                try rw [Exit.noGoto_ret]
                go_ret3
                exact ⟨rfl, HB.out⟩
              · obtain ⟨rfl, rfl, rfl⟩ : r1 = out ∧ r2 = bh ∧ r3 = 0 := by
                  have h9 := HU.out
                  rw [u_zero (by rw [HLen.out]; omega) HC.out, if_neg hbh] at h9
                  simp only [Prod.mk.injEq] at h9
                  exact ⟨h9.1.symm, h9.2.1.symm, h9.2.2.symm⟩
                clear HU
                go_wp2_with fail
                try rw [Exit.noGoto_ret]
                go_ret3
                exact ⟨rfl, HB.out⟩
            · have d0 : (cv == 0) = false := by simpa using c0
              by_cases c1 : 192 ≤ cv
              · by_cases hl1 : i + 1 < n
                · have q1 := HB.out.keep (hcB (i + 1) hl1)
                  have hcb1 := u8Bd (HL.out.getD_wf (i + 1) hl1)
                  obtain ⟨cw, hcw⟩ : ∃ cw, B.getD (i + 1) 0 = cw := ⟨_, rfl⟩
                  rw [hcw] at q1 hcb1
                  have HW := hid hcw
                  clear hcw
                  have hl1z : ¬ (n : Int) ≤ (i : Int) + 1 := by omega
                  obtain ⟨T, hT⟩ : ∃ T : Nat, tgt B i = T := ⟨_, rfl⟩
                  have hTv : (cv - 192) * 256 + cw = (T : Int) := by rw [← hT]; unfold tgt; rw [HC.out, HW.out]; omega
                  have HT := hid hT
                  have m1 := hid (and63 cv (by omega)); have m2 : Hid (bits .or .i64 ((cv - 192) * 256) cw = (T : Int)) := hid (by rw [or8 _ _ (by omega) hcb1, hTv])
                  have hTlt : T < 20000 := by omega
                  clear hT hTv
                  by_cases hpt : p ≤ T
                  · have hpz : (p : Int) ≤ (T : Int) := by omega
                    have m1 := m1.out; have m2 := m2.out
                    obtain ⟨rfl, rfl, rfl⟩ : r1 = [] ∧ r2 = 0 ∧ r3 = 10 := by
                      have h9 := HU.out
                      rw [u_jloop (by rw [HLen.out]; omega) (by rw [HC.out]; omega) (by rw [HT.out]; exact hpt)] at h9
                      simp only [Prod.mk.injEq] at h9
                      exact ⟨h9.1.symm, h9.2.1.symm, h9.2.2.symm⟩
                    clear HU
                    go_wp2_with fail
                    try rw [Exit.noGoto_ret]
                    go_ret3
                    exact ⟨rfl, HB.out⟩
                  · have hpz : ¬ (p : Int) ≤ (T : Int) := by omega
                    have m1 := m1.out; have m2 := m2.out
                    have HM2 : Hid (meas n T T < f) := hid (by have h1 := meas_jump (n := n) (p := p) (i := i) (t := T) (by omega); have h2 := HM.out; omega)
                    by_cases hbh : bh < 0
                    · have HU2 : Hid (unpF B f T T ((i : Int) + 2) out = (r1, r2, r3)) := hid (by have h9 := HU.out; rw [u_jump (by rw [HLen.out]; omega) (by rw [HC.out]; omega) (by rw [HT.out]; exact hpt), HT.out, if_pos hbh] at h9; exact h9)
                      clear HU HM
                      go_wp2_with fail
                      go_roundg f
                      case measure => omega
                      case rel => exact ⟨T, T, (i : Int) + 2, out, cnt, rfl, rfl, rfl, rfl, rfl, by omega, by omega, HM2, by omega, by omega, hc0, hc1, ho, HCn, HO, HU2, HB⟩
                    · have HU2 : Hid (unpF B f T T bh out = (r1, r2, r3)) := hid (by have h9 := HU.out; rw [u_jump (by rw [HLen.out]; omega) (by rw [HC.out]; omega) (by rw [HT.out]; exact hpt), HT.out, if_neg hbh] at h9; exact h9)
                      clear HU HM
                      go_wp2_with fail
                      go_roundg f
                      case measure => omega
                      case rel => exact ⟨T, T, bh, out, cnt, rfl, rfl, rfl, rfl, rfl, by omega, by omega, HM2, by omega, by omega, hc0, hc1, ho, HCn, HO, HU2, HB⟩
                · have hl1z : (n : Int) ≤ (i : Int) + 1 := by omega
                  obtain ⟨rfl, rfl, rfl⟩ : r1 = [] ∧ r2 = 0 ∧ r3 = 2 := by
                    have h9 := HU.out
                    rw [u_jend (by rw [HLen.out]; omega) (by rw [HC.out]; omega) (by rw [HLen.out]; omega)] at h9
                    simp only [Prod.mk.injEq] at h9
                    exact ⟨h9.1.symm, h9.2.1.symm, h9.2.2.symm⟩
                  clear HU
                  go_wp2_with fail
                  try rw [Exit.noGoto_ret]
                  go_ret3
                  exact ⟨rfl, HB.out⟩
              · by_cases c2 : 63 < cv
                · skip
                  obtain ⟨rfl, rfl, rfl⟩ : r1 = [] ∧ r2 = 0 ∧ r3 = 3 := by
                    have h9 := HU.out
                    rw [u_form (by rw [HLen.out]; omega) (by rw [HC.out]; omega) (by rw [HC.out]; omega)] at h9
                    simp only [Prod.mk.injEq] at h9
                    exact ⟨h9.1.symm, h9.2.1.symm, h9.2.2.symm⟩
                  clear HU
                  go_wp2_with fail
                  try rw [Exit.noGoto_ret]
                  go_ret3
                  exact ⟨rfl, HB.out⟩
                · skip
                  have c3 : 1 ≤ cv := by omega
                  obtain ⟨m, rfl⟩ : ∃ m : Nat, cv = m := ⟨cv.toNat, by omega⟩
                  by_cases hl3 : i + 1 + m ≤ n
                  · have hl3z : ¬ (n : Int) < (i : Int) + 1 + (m : Int) := by omega
                    have g1 : ¬ (c : Int) = (i : Int) + 1 := by omega
                    have g2 : (i : Int) + 1 ≤ (i : Int) + 1 + (m : Int) := by omega
                    have g3 : (i : Int) + 1 + (m : Int) ≤ (c : Int) := by omega
                    have hsl : ∀ W : World, (Instr.slice 22 (.slice (some ⟨b, off, none⟩) n c) (some (.int .i64 ((i : Int) + 1))) (some (.int .i64 ((i : Int) + 1 + (m : Int)))) none).run Try.prog W = .ok (.slice (some ⟨b, off + (i + 1), none⟩) m (c - (i + 1))) W := fun W => by
                      have q1 : (0 : Int) ≤ (i : Int) + 1 + (m : Int) := by omega
                      have q2 : (0 : Int) ≤ (i : Int) + 1 ∧ (i : Int) + 1 ≤ max ((i : Int) + 1 + (m : Int)) 0 := by omega
                      have q3 : ((i : Int) + 1 + (m : Int)).toNat - (i + 1) = m := by omega
                      go_simp
                      first | done | rw [if_pos q1, if_pos q2, q3] | skip
                      all_goals first | done | omega
                    have hlab : Rd .u8 w (some ⟨b, off + (i + 1), none⟩) m (lab B i) := by
                      have h1 := (HL.out.take (i + 1 + m) hl3).drop (i + 1) (by omega)
                      have e1 : lab B i = (B.take (i + 1 + m)).drop (i + 1) := by
                        unfold lab
                        rw [HC.out, List.drop_take]
                        congr 1
                        omega
                      rw [e1]
                      have e2 : i + 1 + m - (i + 1) = m := by omega
                      rwa [e2] at h1
                    have hdot := rd_bd hlab
                    have HDot := hid hdot
                    obtain ⟨lb, hlb⟩ : ∃ lb, lab B i = lb := ⟨_, rfl⟩
                    rw [hlb] at hlab HDot
                    have HLb := hid hlb
                    have hlbl := hlab.len
                    have HLab := hid hlab
                    have U3 : Hid ((46 : Int) ∈ lb → (r1, r2, r3) = ([], 0, 9)) := hid (fun h => by have h9 := HU.out; rw [u_dot (by rw [HLen.out]; omega) (by rw [HC.out]; omega) (by rw [HC.out]; omega) (by rw [HC.out, HLen.out]; omega) (by rw [HLb.out]; exact h)] at h9; exact h9.symm)
                    have U4 : Hid ((46 : Int) ∉ lb → 253 < (dotted out ++ lb).length → (r1, r2, r3) = ([], 0, 9)) := hid (fun h h2 => by have h9 := HU.out; rw [u_long (by rw [HLen.out]; omega) (by rw [HC.out]; omega) (by rw [HC.out]; omega) (by rw [HC.out, HLen.out]; omega) (by rw [HLb.out]; exact h) (by rw [HLb.out]; exact h2)] at h9; exact h9.symm)
                    have U5 : Hid ((46 : Int) ∉ lb → ¬ 253 < (dotted out ++ lb).length → unpF B f p (i + 1 + m) bh (dotted out ++ lb) = (r1, r2, r3)) := hid (fun h h2 => by have h9 := HU.out; rw [u_next (by rw [HLen.out]; omega) (by rw [HC.out]; omega) (by rw [HC.out]; omega) (by rw [HC.out, HLen.out]; omega) (by rw [HLb.out]; exact h) (by rw [HLb.out]; exact h2), HC.out, HLb.out] at h9; exact h9)
                    have HM2 : Hid (meas n p (i + 1 + m) < f) := hid (by have h1 := meas_next (n := n) (p := p) (i := i) (j := i + 1 + m) (by omega) hlt; have h2 := HM.out; omega)
                    clear hlab hdot hlb HU HM
                    have hcc : (1 : Int) + (m : Int) = (m : Int) + 1 := by omega
                    have hbase := HB.out.size
                    by_cases hcz : cnt = 0
                    · subst hcz
                      have hout := HCn.out rfl
                      subst hout
                      have HDd : Hid (dotted [] = []) := hid rfl
                      rw [HDd.out, List.nil_append] at U4 U5
                      clear HDd
                      go_wp2_with (at_builtin; refine wpList_app _ rfl (.tmp 93) (.tmp 94) _ rfl elemB w.heap.size _ [] rfl HO.out (some ⟨b, off + (i + 1), none⟩) m (c - (i + 1)) lb rfl (HLab.out.only_nil HB.out) (by intro e; cases e) (by first | omega | (simp; omega)) (by unfold maxLen; first | omega | (simp; omega)) HB.out.size ?_)
                      intro v5 w5 hv5 hg5 hb5
                      have HB5 := hid (HB.out.own_grown HO.out hg5 (Nat.le_refl _))
                      have HO5 : Hid (Own .u8 5 w5 w.heap.size v5 lb) := hid (by simpa using hv5)
                      clear hv5 hg5 hb5
                      have hcv5 := convRd w5 (some ⟨b, off + (i + 1), none⟩) m (c - (i + 1)) lb (HLab.out.only_nil HB5.out) (.inr ⟨_, _, rfl⟩)
                      obtain ⟨Ao, co, rfl, _, _⟩ := own_form HO5.out
                      go_wp2_with fail
                      refine (contains1 _ lb HDot.out).mono ?_
                      rintro x w6 ⟨rfl, rfl⟩
                      clear hcv5
                      by_cases h46 : (46 : Int) ∈ lb
                      · have h9 := U3.out h46
                        simp only [Prod.mk.injEq] at h9
                        obtain ⟨rfl, rfl, rfl⟩ := h9
                        rw [decide_eq_true h46]
                        clear U3 U4 U5
                        go_wp2_with fail
                        try rw [Exit.noGoto_ret]
                        go_ret3
                        exact ⟨rfl, HB5.out⟩
                      · rw [decide_eq_false h46]
                        obtain ⟨N, hN⟩ : ∃ N, (lb).length = N := ⟨_, rfl⟩
                        have HN := hid hN
                        rw [hN] at U4 U5 ⊢
                        have hNb : N ≤ 320 := by rw [← hN]; first | omega | (simp; omega)
                        have hcN : 1 ≤ N := by rw [← hN]; first | omega | (simp; omega)
                        clear hN
                        by_cases h253 : 253 < N
                        · have h9 := U4.out h46 h253
                          simp only [Prod.mk.injEq] at h9
                          obtain ⟨rfl, rfl, rfl⟩ := h9
                          have h253z : (253 : Int) < (N : Int) := by omega
                          clear U3 U4 U5
                          go_wp2_with fail
                          try rw [Exit.noGoto_ret]
                          go_ret3
                          exact ⟨rfl, HB5.out⟩
                        · have HU2 := hid (U5.out h46 h253)
                          have h253z : ¬ (253 : Int) < (N : Int) := by omega
                          have HCn2 : Hid ((0 : Int) + 1 = 0 → (lb) = []) := hid (fun h => by omega)
                          rw [HN.out] at HO5
                          clear U3 U4 U5 HCn
                          go_wp2_with fail
                          go_roundg f
                          case measure => omega
                          case rel => exact ⟨p, i + 1 + m, bh, lb, (0 : Int) + 1, by first | rfl | (congr 1; omega), rfl, rfl, rfl, rfl, hl3, hp, HM2, by omega, by omega, by omega, by rw [HN.out]; omega, by rw [HN.out]; omega, HCn2, by first | exact HO5 | (rw [← HN.out] at HO5; exact HO5), HU2, HB5⟩
                    · have hczp : 0 < cnt := by omega
                      have HOa : Hid (Own .u8 5 (wr.alloc (.cells #[.int .u8 46] 5)) w.heap.size u7 out) := hid (HO.out.alloc _)
                      have HBa : Hid (Only [] w (wr.alloc (.cells #[.int .u8 46] 5))) := hid (HB.out.alloc _)
                      have HRa : Hid (Rd .u8 (wr.alloc (.cells #[.int .u8 46] 5)) (some ⟨wr.heap.size, 0, none⟩) 1 [46]) := hid (rd_one wr 5 46 (by decide))
                      have HDd : Hid (dotted out = out ++ [46]) := hid (by unfold dotted; rw [if_neg]; intro e; rw [e] at hc1; simp at hc1; omega)
                      rw [HDd.out] at U4 U5
                      clear HDd
                      go_wp2_with (at_builtin; refine wpList_app _ rfl (.tmp 82) (.tmp 83) _ rfl elemB w.heap.size _ out rfl HOa.out (some ⟨wr.heap.size, 0, none⟩) 1 1 [46] rfl HRa.out (by intro e; cases e) (by omega) (by unfold maxLen; omega) HBa.out.size ?_)
                      intro v4 w4 hv4 hg4 hb4
                      have HB4 := hid (HBa.out.own_grown HOa.out hg4 (Nat.le_refl _))
                      have HO4 := hid hv4
                      clear hv4 hg4 hb4
                      go_wp2_with (at_builtin; refine wpList_app _ rfl (.tmp 93) (.tmp 94) _ rfl elemB w.heap.size _ (out ++ [46]) rfl HO4.out (some ⟨b, off + (i + 1), none⟩) m (c - (i + 1)) lb rfl (HLab.out.only_nil HB4.out) (by intro e; cases e) (by first | omega | (simp; omega)) (by unfold maxLen; first | omega | (simp; omega)) HB4.out.size ?_)
                      intro v5 w5 hv5 hg5 hb5
                      have HB5 := hid (HB4.out.own_grown HO4.out hg5 (Nat.le_refl _))
                      have HO5 : Hid (Own .u8 5 w5 w.heap.size v5 (out ++ [46] ++ lb)) := hid (by simpa using hv5)
                      clear hv5 hg5 hb5
                      have hcv5 := convRd w5 (some ⟨b, off + (i + 1), none⟩) m (c - (i + 1)) lb (HLab.out.only_nil HB5.out) (.inr ⟨_, _, rfl⟩)
                      obtain ⟨Ao, co, rfl, _, _⟩ := own_form HO5.out
                      go_wp2_with fail
                      refine (contains1 _ lb HDot.out).mono ?_
                      rintro x w6 ⟨rfl, rfl⟩
                      clear hcv5
                      by_cases h46 : (46 : Int) ∈ lb
                      · have h9 := U3.out h46
                        simp only [Prod.mk.injEq] at h9
                        obtain ⟨rfl, rfl, rfl⟩ := h9
                        rw [decide_eq_true h46]
                        clear U3 U4 U5
                        go_wp2_with fail
                        try rw [Exit.noGoto_ret]
                        go_ret3
                        exact ⟨rfl, HB5.out⟩
                      · rw [decide_eq_false h46]
                        obtain ⟨N, hN⟩ : ∃ N, (out ++ [46] ++ lb).length = N := ⟨_, rfl⟩
                        have HN := hid hN
                        rw [hN] at U4 U5 ⊢
                        have hNb : N ≤ 320 := by rw [← hN]; first | omega | (simp; omega)
                        have hcN : cnt + 1 ≤ N := by rw [← hN]; first | omega | (simp; omega)
                        clear hN
                        by_cases h253 : 253 < N
                        · have h9 := U4.out h46 h253
                          simp only [Prod.mk.injEq] at h9
                          obtain ⟨rfl, rfl, rfl⟩ := h9
                          have h253z : (253 : Int) < (N : Int) := by omega
                          clear U3 U4 U5
                          go_wp2_with fail
                          try rw [Exit.noGoto_ret]
                          go_ret3
                          exact ⟨rfl, HB5.out⟩
                        · have HU2 := hid (U5.out h46 h253)
                          have h253z : ¬ (253 : Int) < (N : Int) := by omega
                          have HCn2 : Hid (cnt + 1 = 0 → (out ++ [46] ++ lb) = []) := hid (fun h => by omega)
                          rw [HN.out] at HO5
                          clear U3 U4 U5 HCn
                          go_wp2_with fail
                          go_roundg f
                          case measure => omega
                          case rel => exact ⟨p, i + 1 + m, bh, out ++ [46] ++ lb, cnt + 1, by first | rfl | (congr 1; omega), rfl, rfl, rfl, rfl, hl3, hp, HM2, by omega, by omega, by omega, by rw [HN.out]; omega, by rw [HN.out]; omega, HCn2, by first | exact HO5 | (rw [← HN.out] at HO5; exact HO5), HU2, HB5⟩
                  · have hl3z : (n : Int) < (i : Int) + 1 + (m : Int) := by omega
                    obtain ⟨rfl, rfl, rfl⟩ : r1 = [] ∧ r2 = 0 ∧ r3 = 2 := by
                      have h9 := HU.out
                      rw [u_short (by rw [HLen.out]; omega) (by rw [HC.out]; omega) (by rw [HC.out]; omega) (by rw [HC.out, HLen.out]; omega)] at h9
                      simp only [Prod.mk.injEq] at h9
                      exact ⟨h9.1.symm, h9.2.1.symm, h9.2.2.symm⟩
                    clear HU
                    go_wp2_with fail
                    try rw [Exit.noGoto_ret]
                    go_ret3
                    exact ⟨rfl, HB.out⟩
          · have hlz : ¬ (i : Int) < n := by omega
            obtain ⟨rfl, rfl, rfl⟩ : r1 = [] ∧ r2 = 0 ∧ r3 = 2 := by
              have h9 := HU.out
              rw [u_end (by rw [HLen.out]; omega)] at h9
              simp only [Prod.mk.injEq] at h9
              exact ⟨h9.1.symm, h9.2.1.symm, h9.2.2.symm⟩
            clear HU
            go_wp2_with fail
            try rw [Exit.noGoto_ret]
            go_ret3
            exact ⟨rfl, HB.out⟩
    · have HE : Hid (unp B (k : Int) = ([], 0, 2)) := hid (by unfold unp; rw [if_pos (.inr (by rw [HLen.out]; omega))])
      have h3 : (n : Int) ≤ (k : Int) := by omega
      go_enter Try.func14, Try.ntmps14
      go_wp2_with fail
      try go_step3
      try go_wp2_with fail
      try rw [Exit.noGoto_ret]
      go_ret3
      exact ⟨by rw [HE.out]; rfl, HB0.out⟩
theorem unp_at (pre rest L : List Int) (h : ¬ 253 < L.length) (ok : ∀ l ∈ labsOf L, okL l) : unp (pre ++ (pk (labsOf L) ++ [0]) ++ rest) ((pre.length : Nat) : Int) = (L, ((pre.length + (pk (labsOf L) ++ [0]).length : Nat) : Int), 0) := by
  have hj := joinF_labs L ok
  have hnd := labs_nodot L
  obtain ⟨ls, hls⟩ : ∃ ls, labsOf L = ls := ⟨_, rfl⟩
  rw [hls] at hj hnd ok ⊢
  have hB : pre ++ (pk ls ++ [0]) ++ rest = pre ++ (pk ls ++ (0 :: rest)) := by simp
  rw [hB]
  have hsz := pk_size ls ok
  have hlen : (pre ++ (pk ls ++ (0 :: rest))).length = pre.length + (pk ls).length + 1 + rest.length := by simp; omega
  rw [unp_in (by rw [hlen]; omega)]
  obtain ⟨n, hn⟩ : ∃ n, (pre ++ (pk ls ++ (0 :: rest))).length = n := ⟨_, rfl⟩
  rw [hn] at hlen ⊢
  obtain ⟨f, hf⟩ : ∃ f, n * (n + 2) + n + 1 = (f + 1) + ls.length := ⟨n * (n + 2) + n - ls.length, by omega⟩
  rw [hf]
  have h1 := unp_labs ls pre (0 :: rest) [] (f + 1) pre.length (-1) ok hnd (by rw [hj]; omega)
  rw [h1, hj, u_zero (by rw [hn]; omega) (by simp [List.getD_eq_getElem?_getD])]
  simp
  omega
theorem packs_nm {s : ByteArray} (h : isNm s = true) : (packs (chs s)).1 = pk (labsOf (chs s)) ++ [0] ∧ ¬ 253 < (chs s).length ∧ ∀ l ∈ labsOf (chs s), okL l := by
  rw [isNm_eq] at h
  have h := of_decide_eq_true h
  have h1 : ¬ 253 < (chs s).length := by rw [chs_len]; omega
  exact ⟨by rw [packs_ok h1 h.2], h1, h.2⟩
/-- A name that was written is read. -/
theorem unp_name (pre rest : List Int) {s : ByteArray} (h : isNm s = true) : unp (pre ++ (packs (chs s)).1 ++ rest) ((pre.length : Nat) : Int) = (chs s, ((pre.length + (packs (chs s)).1.length : Nat) : Int), 0) := by
  obtain ⟨h1, h2, h3⟩ := packs_nm h
  rw [h1]
  exact unp_at pre rest (chs s) h2 h3
/-- Objects of bytes. -/
def isU8 (o : Obj) : Prop := ∃ cs z, o = .cells cs 5 z
/-- No object of bytes has turned. -/
def K8 (w w' : World) : Prop := ∀ (b : Nat) (o : Obj), w.heap[b]? = some o → isU8 o → w'.heap[b]? = some o
theorem K8.refl (w : World) : K8 w w := fun _ _ h _ => h
theorem K8.trans {a b c : World} (h : K8 a b) (k : K8 b c) : K8 a c := fun i o h1 h2 => k i o (h i o h1 h2) h2
theorem lt_of_some {w : World} {b : Nat} {o : Obj} (h : w.heap[b]? = some o) : b < w.heap.size := by
  rcases Nat.lt_or_ge b w.heap.size with h1 | h1
  · exact h1
  · rw [Array.getElem?_eq_none h1] at h; cases h
theorem K8.of_only {S : List Nat} {w w' : World} (o : Only S w w') (hS : ∀ k ∈ S, w.heap.size ≤ k ∨ ∃ T cs, T ≠ 5 ∧ Ob w k T cs) : K8 w w' := fun b ob h1 h2 => by
  rw [o.block b (lt_of_some h1) ?_]
  · exact h1
  · intro hm
    rcases hS b hm with h3 | ⟨T, cs, h3, h4⟩
    · have := lt_of_some h1; omega
    · obtain ⟨cs', z, e⟩ := h2
      unfold Ob at h4
      rw [h1, e] at h4
      injection h4 with h4
      injection h4 with _ h5
      exact h3 h5.symm
theorem K8.of_nil {w w' : World} (o : Only [] w w') : K8 w w' := K8.of_only o (by simp)
theorem K8.of_grown {w w' : World} {v : Value} {base sz n : Nat} {T : TypeId} {xs : List Value} (hv : w.ownsRow base T sz v n xs) (hT : T ≠ 5) (hg : w.grownBy w' v.ownBlock) : K8 w w' := fun b o h1 h2 => by
  rw [hg.block b (lt_of_some h1) ?_]
  · exact h1
  · intro e
    obtain ⟨cs', z, e2⟩ := h2
    rcases hv.2 with ⟨h3, _⟩ | ⟨p, cap, cur, h3, _, hh, _⟩
    · rw [h3] at e; cases e
    · rw [h3] at e
      have e3 : b = p := by simpa [Value.ownBlock] using e
      subst e3
      rw [hh] at h1
      injection h1 with h1
      rw [e2] at h1
      injection h1 with _ h5
      exact hT h5
/-- Data that were read. -/
def DB (w : World) (v : Value) (d : List Int) : Prop := ∃ A c, v = .slice A d.length c ∧ d.length ≤ c ∧ (A = none → c = 0) ∧ Rd .u8 w A d.length d ∧ (0 < d.length → ∃ b off o, A = some ⟨b, off, none⟩ ∧ w.heap[b]? = some o ∧ isU8 o)
theorem DB.keep {w w' : World} {v : Value} {d : List Int} (h : DB w v d) (k : K8 w w') : DB w' v d := by
  obtain ⟨A, c, e, h1, h2, h3, h4⟩ := h
  refine ⟨A, c, e, h1, h2, ?_, fun h0 => ?_⟩
  · rcases Nat.eq_zero_or_pos d.length with h0 | h0
    · have : d = [] := List.eq_nil_of_length_eq_zero h0
      subst this
      exact Rd.nil _ _ _
    · obtain ⟨b, off, o, rfl, h5, h6⟩ := h4 h0
      refine h3.keep (fun b' _ ⟨off', e'⟩ => ?_)
      injection e' with e'
      injection e' with e1 _
      subst e1
      rw [k _ o h5 h6, h5]
  · obtain ⟨b, off, o, e1, h5, h6⟩ := h4 h0
    exact ⟨b, off, o, e1, k _ o h5 h6, h6⟩
theorem DB.nil (w : World) : DB w (.slice none 0 0) [] := ⟨none, 0, rfl, by simp, fun _ => rfl, Rd.nil _ _ _, fun h => absurd h (by simp)⟩
theorem DB.of_own {w : World} {base : Nat} {v : Value} {d : List Int} (h : Own .u8 5 w base v d) : DB w v d := by
  obtain ⟨A, c, e, h1, _, h3, _⟩ := h.slice
  refine ⟨A, c, e, h1, own_notNil h e, h3, fun h0 => ?_⟩
  rcases h.1.2 with ⟨_, h4⟩ | ⟨p, cap, cur, hv, _, hh, _⟩
  · omega
  · rw [e] at hv
    injection hv with e1 _ _
    exact ⟨p, 0, _, e1, hh, _, _, rfl⟩
theorem DB.of_br {w : World} {g cap : Nat} {d r : List Int} (h : BR w g 5 (d ++ r)) (hb : ∀ x ∈ d, 0 ≤ x ∧ x ≤ 255) (hc : d.length ≤ cap) : DB w (.slice (some ⟨g, 0, none⟩) d.length cap) d :=
  ⟨_, cap, rfl, hc, (fun e => by cases e), BR.rd h hb, fun _ => ⟨g, 0, _, rfl, h, _, _, rfl⟩⟩
end Go.Proofs.Ytfoecnlbiaiibaa.nam
