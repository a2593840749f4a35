/-
  Chapter 21 (name): Unpack of any bytes at any place, by a walk of its text. Conditions: none but those typed.
-/
import Derived.Test.YtfoecnlbiaiibaaNamT
import Derived.Test.YtfoecnlbiaiibaaOrm
import Derived.Deep.LoopGhost
namespace Go.Proofs.Ytfoecnlbiaiibaa.nam
set_option linter.unusedVariables false
set_option linter.unusedSimpArgs false
open Go.ChangeShapes Go.WideShapes Go.ChangeAt Go.RowKit Go.IntWalk Go.Lib
theorem elemB : Elem Try.prog 22 5 .u8 1 := ⟨Try.underlying22, by kernel_rfl⟩
theorem str_nil : strOfNums [] = ⟨#[]⟩ := rfl
theorem rU {s t : ByteArray} {a b c d : Int} (h : s = t) (h1 : a = b) (h2 : c = d) : Ending.returned (.tuple #[.string s, .int .i64 a, .int .i64 c]) = .returned (.tuple #[.string t, .int .i64 b, .int .i64 d]) := by rw [h, h1, h2]
theorem rd_one (w : World) (e : TypeId) (z : Int) (hz : (Lit.int .u8 z).wf = true) : Rd .u8 (w.alloc (.cells #[.int .u8 z] e)) (some ⟨w.heap.size, 0, none⟩) 1 [z] := ⟨rfl, fun x hx => by rw [show x = z from by simpa using hx]; exact hz, fun _ => ⟨w.heap.size, 0, rfl, fun j hj => by
  obtain rfl : j = 0 := by omega
  rw [(Ob.new w e #[.int .u8 z]).cell]; rfl⟩⟩
theorem own_form {k : IntKind} {e : TypeId} {w : World} {base : Nat} {v : Value} {l : List Int} (h : Own k e w base v l) : ∃ A c, v = .slice A l.length c ∧ Rd k w A l.length l ∧ ((A = none ∧ c = 0) ∨ ∃ b off, A = some ⟨b, off, none⟩) := by
  obtain ⟨A, c, hv, _, _, hr, _⟩ := h.slice
  refine ⟨A, c, hv, hr, ?_⟩
  rcases h.1.2 with ⟨e1, _⟩ | ⟨b, cap, cur, e1, _⟩
  · rw [hv] at e1; injection e1 with e1 _ e3
    exact .inl ⟨e1, e3⟩
  · rw [hv] at e1; injection e1 with e1 _ e3
    exact .inr ⟨b, 0, e1⟩
theorem and63 (x : Int) (h : 192 ≤ x ∧ x ≤ 255) : bits .and .i64 x 63 = x - 192 := by
  have := i64_mask x 6 63 (by decide) (by decide)
  rw [show ((63 : Nat) : Int) = 63 from rfl] at this
  rw [this]; show x % 64 = _; omega
theorem or8 (x y : Int) (hx : 0 ≤ x ∧ x ≤ 63) (hy : 0 ≤ y ∧ y ≤ 255) : bits .or .i64 (x * 256) y = x * 256 + y := by
  obtain ⟨X, rfl⟩ := Int.eq_ofNat_of_zero_le hx.1
  obtain ⟨Y, rfl⟩ := Int.eq_ofNat_of_zero_le hy.1
  have := i64_or_nat (X * 256) Y (by omega) (by omega)
  rw [nat_join X Y (by omega)] at this
  simpa using this
set_option maxRecDepth 100000 in
set_option maxHeartbeats 8000000 in
theorem unpL (w : World) (A : Option Addr) (n c : Nat) (B : List Int) (at_ : Int) (hB : Rd .u8 w A n B) (hnc : n ≤ c) (hcm : c ≤ maxLen) (hn : n ≤ 100000) : Calls Try.prog 14 #[.slice A n c, .int .i64 at_] w fun x w' => x = .returned (.tuple #[.string (strOfNums (unp B at_).1), .int .i64 (unp B at_).2.1, .int .i64 (unp B at_).2.2]) ∧ Only [] w w' := by
  have HL := hid hB
  have HLen := hid hB.len
  unfold maxLen at hcm
  have HB0 : Hid (Only [] w w) := hid (Only.refl _ _)
  clear hB
  by_cases h1 : at_ < 0
  · have HE : Hid (unp B at_ = ([], 0, 2)) := hid (by unfold unp; rw [if_pos (.inl h1)])
    go_enter Try.func14, Try.ntmps14
    go_wp2_with fail
    try go_step3
    try go_wp2_with fail
    try rw [Exit.noGoto_ret]
    go_ret3
    exact ⟨by rw [HE.out]; rfl, HB0.out⟩
  · obtain ⟨k, rfl⟩ : ∃ k : Nat, at_ = k := ⟨at_.toNat, by omega⟩
    by_cases h2 : k < n
    · have HTop := hid (meas_top h2)
      have hR := unp_in (B := B) (k := k) (by rw [HLen.out]; exact h2)
      rw [HLen.out] at hR
      have HR0 := hid hR
      obtain ⟨⟨r1, r2, r3⟩, hRR⟩ : ∃ R, unp B (k : Int) = R := ⟨_, rfl⟩
      rw [hRR]
      rw [hRR] at HR0
      have HR1 : Hid (unpF B (n * (n + 2) + n + 1) k k (-1) [] = (r1, r2, r3)) := hid HR0.out.symm
      clear hR HR0 hRR h1
      obtain ⟨top, htop⟩ : ∃ top, n * (n + 2) + n + 1 = top := ⟨_, rfl⟩
      rw [htop] at HTop HR1
      clear htop
      have h3 : ¬ (n : Int) ≤ (k : Int) := by omega
      have hk0 : decide ((k : Int) < 0) = false := by simp
      have hk1 : decide (n ≤ k) = false := decide_eq_false (by omega)
      go_enter Try.func14, Try.ntmps14
      go_wp2_with fail
      go_step3
      go_wp2_with fail
      go_step3
      go_wp2_with fail
      go_loopg [1, 7, 8, 9, 10, 11] top (fun gk va vo vc vp vb ve wr => ∃ (p i : Nat) (bh : Int) (out : List Int) (cnt : Int), va = .int .i64 i ∧ vp = .int .i64 p ∧ vb = .int .i64 bh ∧ vc = .int .i64 cnt ∧ ve = .int .i64 2 ∧ i ≤ n ∧ p < n ∧ Hid (meas n p i < gk) ∧ -1 ≤ bh ∧ bh ≤ 200000 ∧ 0 ≤ cnt ∧ cnt ≤ out.length ∧ out.length ≤ 253 ∧ Hid (cnt = 0 → out = []) ∧ Hid (Own .u8 5 wr w.heap.size vo out) ∧ Hid (unpF B gk p i bh out = (r1, r2, r3)) ∧ Hid (Only [] w wr))
      case atStart => exact ⟨k, k, -1, [], 0, rfl, rfl, rfl, rfl, rfl, by omega, h2, HTop, by omega, by omega, by omega, by simp, by simp, hid (fun _ => rfl), hid (Own.nil _ _ _ _), HR1, HB0⟩
      case round =>
        clear HTop HR1 HB0
        obtain ⟨p, i, bh, out, cnt, rfl, rfl, rfl, rfl, rfl, hi, hp, HM, hb1, hb2, hc0, hc1, ho, HCn, HO, HU, HB⟩ := hrel
        cases gk with
        | zero => exact absurd HM.out (by omega)
        | succ f =>
          by_cases hlt : i < n
          · have hlz : (i : Int) < n := by omega
            obtain ⟨b, off, rfl, _, hcB⟩ := HL.out.at_ (by omega)
            have q0 := HB.out.keep (hcB i hlt)
            have hcb := u8Bd (HL.out.getD_wf i hlt)
            obtain ⟨cv, hcv⟩ : ∃ cv, B.getD i 0 = cv := ⟨_, rfl⟩
            rw [hcv] at q0 hcb
            have HC := hid hcv
            clear hcv
            by_cases c0 : cv = 0
            · subst c0
              obtain ⟨Ao, co, rfl, hRd, hA⟩ := own_form HO.out
              have hcvt := convRd wr Ao out.length co out hRd hA
              clear hRd hA
              by_cases hbh : bh < 0
              · obtain ⟨rfl, rfl, rfl⟩ : r1 = out ∧ r2 = (i : Int) + 1 ∧ r3 = 0 := by
                  have h9 := HU.out
                  rw [u_zero (by rw [HLen.out]; omega) HC.out, if_pos hbh] at h9
                  simp only [Prod.mk.injEq] at h9
                  exact ⟨h9.1.symm, h9.2.1.symm, h9.2.2.symm⟩
                clear HU
                go_wp2_with fail
                try rw [Exit.noGoto_ret]
                go_ret3
                exact ⟨rfl, HB.out⟩
              · obtain ⟨rfl, rfl, rfl⟩ : r1 = out ∧ r2 = bh ∧ r3 = 0 := by
                  have h9 := HU.out
                  rw [u_zero (by rw [HLen.out]; omega) HC.out, if_neg hbh] at h9
                  simp only [Prod.mk.injEq] at h9
                  exact ⟨h9.1.symm, h9.2.1.symm, h9.2.2.symm⟩
                clear HU
                go_wp2_with fail
                try rw [Exit.noGoto_ret]
                go_ret3
                exact ⟨rfl, HB.out⟩
            · have d0 : (cv == 0) = false := by simpa using c0
              by_cases c1 : 192 ≤ cv
              · by_cases hl1 : i + 1 < n
                · have q1 := HB.out.keep (hcB (i + 1) hl1)
                  have hcb1 := u8Bd (HL.out.getD_wf (i + 1) hl1)
                  obtain ⟨cw, hcw⟩ : ∃ cw, B.getD (i + 1) 0 = cw := ⟨_, rfl⟩
                  rw [hcw] at q1 hcb1
                  have HW := hid hcw
                  clear hcw
                  have hl1z : ¬ (n : Int) ≤ (i : Int) + 1 := by omega
                  obtain ⟨T, hT⟩ : ∃ T : Nat, tgt B i = T := ⟨_, rfl⟩
                  have hTv : (cv - 192) * 256 + cw = (T : Int) := by rw [← hT]; unfold tgt; rw [HC.out, HW.out]; omega
                  have HT := hid hT
                  have m1 := hid (and63 cv (by omega)); have m2 : Hid (bits .or .i64 ((cv - 192) * 256) cw = (T : Int)) := hid (by rw [or8 _ _ (by omega) hcb1, hTv])
                  have hTlt : T < 20000 := by omega
                  clear hT hTv
                  by_cases hpt : p ≤ T
                  · have hpz : (p : Int) ≤ (T : Int) := by omega
                    have m1 := m1.out; have m2 := m2.out
                    obtain ⟨rfl, rfl, rfl⟩ : r1 = [] ∧ r2 = 0 ∧ r3 = 10 := by
                      have h9 := HU.out
                      rw [u_jloop (by rw [HLen.out]; omega) (by rw [HC.out]; omega) (by rw [HT.out]; exact hpt)] at h9
                      simp only [Prod.mk.injEq] at h9
                      exact ⟨h9.1.symm, h9.2.1.symm, h9.2.2.symm⟩
                    clear HU
                    go_wp2_with fail
                    try rw [Exit.noGoto_ret]
                    go_ret3
                    exact ⟨rfl, HB.out⟩
                  · have hpz : ¬ (p : Int) ≤ (T : Int) := by omega
                    have m1 := m1.out; have m2 := m2.out
                    have HM2 : Hid (meas n T T < f) := hid (by have h1 := meas_jump (n := n) (p := p) (i := i) (t := T) (by omega); have h2 := HM.out; omega)
                    by_cases hbh : bh < 0
                    · have HU2 : Hid (unpF B f T T ((i : Int) + 2) out = (r1, r2, r3)) := hid (by have h9 := HU.out; rw [u_jump (by rw [HLen.out]; omega) (by rw [HC.out]; omega) (by rw [HT.out]; exact hpt), HT.out, if_pos hbh] at h9; exact h9)
                      clear HU HM
                      go_wp2_with fail
                      go_roundg f
                      case measure => omega
                      case rel => exact ⟨T, T, (i : Int) + 2, out, cnt, rfl, rfl, rfl, rfl, rfl, by omega, by omega, HM2, by omega, by omega, hc0, hc1, ho, HCn, HO, HU2, HB⟩
                    · have HU2 : Hid (unpF B f T T bh out = (r1, r2, r3)) := hid (by have h9 := HU.out; rw [u_jump (by rw [HLen.out]; omega) (by rw [HC.out]; omega) (by rw [HT.out]; exact hpt), HT.out, if_neg hbh] at h9; exact h9)
                      clear HU HM
                      go_wp2_with fail
                      go_roundg f
                      case measure => omega
                      case rel => exact ⟨T, T, bh, out, cnt, rfl, rfl, rfl, rfl, rfl, by omega, by omega, HM2, by omega, by omega, hc0, hc1, ho, HCn, HO, HU2, HB⟩
                · have hl1z : (n : Int) ≤ (i : Int) + 1 := by omega
                  obtain ⟨rfl, rfl, rfl⟩ : r1 = [] ∧ r2 = 0 ∧ r3 = 2 := by
                    have h9 := HU.out
                    rw [u_jend (by rw [HLen.out]; omega) (by rw [HC.out]; omega) (by rw [HLen.out]; omega)] at h9
                    simp only [Prod.mk.injEq] at h9
                    exact ⟨h9.1.symm, h9.2.1.symm, h9.2.2.symm⟩
                  clear HU
                  go_wp2_with fail
                  try rw [Exit.noGoto_ret]
                  go_ret3
                  exact ⟨rfl, HB.out⟩
              · by_cases c2 : 63 < cv
                · skip
                  obtain ⟨rfl, rfl, rfl⟩ : r1 = [] ∧ r2 = 0 ∧ r3 = 3 := by
                    have h9 := HU.out
                    rw [u_form (by rw [HLen.out]; omega) (by rw [HC.out]; omega) (by rw [HC.out]; omega)] at h9
                    simp only [Prod.mk.injEq] at h9
                    exact ⟨h9.1.symm, h9.2.1.symm, h9.2.2.symm⟩
                  clear HU
                  go_wp2_with fail
                  try rw [Exit.noGoto_ret]
                  go_ret3
                  exact ⟨rfl, HB.out⟩
                · skip
                  have c3 : 1 ≤ cv := by omega
                  obtain ⟨m, rfl⟩ : ∃ m : Nat, cv = m := ⟨cv.toNat, by omega⟩
                  by_cases hl3 : i + 1 + m ≤ n
                  · have hl3z : ¬ (n : Int) < (i : Int) + 1 + (m : Int) := by omega
                    have g1 : ¬ (c : Int) = (i : Int) + 1 := by omega
                    have g2 : (i : Int) + 1 ≤ (i : Int) + 1 + (m : Int) := by omega
                    have g3 : (i : Int) + 1 + (m : Int) ≤ (c : Int) := by omega
                    have hsl : ∀ W : World, (Instr.slice 22 (.slice (some ⟨b, off, none⟩) n c) (some (.int .i64 ((i : Int) + 1))) (some (.int .i64 ((i : Int) + 1 + (m : Int)))) none).run Try.prog W = .ok (.slice (some ⟨b, off + (i + 1), none⟩) m (c - (i + 1))) W := fun W => by
                      have q1 : (0 : Int) ≤ (i : Int) + 1 + (m : Int) := by omega
                      have q2 : (0 : Int) ≤ (i : Int) + 1 ∧ (i : Int) + 1 ≤ max ((i : Int) + 1 + (m : Int)) 0 := by omega
                      have q3 : ((i : Int) + 1 + (m : Int)).toNat - (i + 1) = m := by omega
                      go_simp
                      first | done | rw [if_pos q1, if_pos q2, q3] | skip
                      all_goals first | done | omega
                    have hlab : Rd .u8 w (some ⟨b, off + (i + 1), none⟩) m (lab B i) := by
                      have h1 := (HL.out.take (i + 1 + m) hl3).drop (i + 1) (by omega)
                      have e1 : lab B i = (B.take (i + 1 + m)).drop (i + 1) := by
                        unfold lab
                        rw [HC.out, List.drop_take]
                        congr 1
                        omega
                      rw [e1]
                      have e2 : i + 1 + m - (i + 1) = m := by omega
                      rwa [e2] at h1
                    have hdot := rd_bd hlab
                    have HDot := hid hdot
                    obtain ⟨lb, hlb⟩ : ∃ lb, lab B i = lb := ⟨_, rfl⟩
                    rw [hlb] at hlab HDot
                    have HLb := hid hlb
                    have hlbl := hlab.len
                    have HLab := hid hlab
                    have U3 : Hid ((46 : Int) ∈ lb → (r1, r2, r3) = ([], 0, 9)) := hid (fun h => by have h9 := HU.out; rw [u_dot (by rw [HLen.out]; omega) (by rw [HC.out]; omega) (by rw [HC.out]; omega) (by rw [HC.out, HLen.out]; omega) (by rw [HLb.out]; exact h)] at h9; exact h9.symm)
                    have U4 : Hid ((46 : Int) ∉ lb → 253 < (dotted out ++ lb).length → (r1, r2, r3) = ([], 0, 9)) := hid (fun h h2 => by have h9 := HU.out; rw [u_long (by rw [HLen.out]; omega) (by rw [HC.out]; omega) (by rw [HC.out]; omega) (by rw [HC.out, HLen.out]; omega) (by rw [HLb.out]; exact h) (by rw [HLb.out]; exact h2)] at h9; exact h9.symm)
                    have U5 : Hid ((46 : Int) ∉ lb → ¬ 253 < (dotted out ++ lb).length → unpF B f p (i + 1 + m) bh (dotted out ++ lb) = (r1, r2, r3)) := hid (fun h h2 => by have h9 := HU.out; rw [u_next (by rw [HLen.out]; omega) (by rw [HC.out]; omega) (by rw [HC.out]; omega) (by rw [HC.out, HLen.out]; omega) (by rw [HLb.out]; exact h) (by rw [HLb.out]; exact h2), HC.out, HLb.out] at h9; exact h9)
                    have HM2 : Hid (meas n p (i + 1 + m) < f) := hid (by have h1 := meas_next (n := n) (p := p) (i := i) (j := i + 1 + m) (by omega) hlt; have h2 := HM.out; omega)
                    clear hlab hdot hlb HU HM
                    have hcc : (1 : Int) + (m : Int) = (m : Int) + 1 := by omega
                    have hbase := HB.out.size
                    by_cases hcz : cnt = 0
                    · subst hcz
                      have hout := HCn.out rfl
                      subst hout
                      have HDd : Hid (dotted [] = []) := hid rfl
                      rw [HDd.out, List.nil_append] at U4 U5
                      clear HDd
                      go_wp2_with (at_builtin; refine wpList_app _ rfl (.tmp 93) (.tmp 94) _ rfl elemB w.heap.size _ [] rfl HO.out (some ⟨b, off + (i + 1), none⟩) m (c - (i + 1)) lb rfl (HLab.out.only_nil HB.out) (by intro e; cases e) (by first | omega | (simp; omega)) (by unfold maxLen; first | omega | (simp; omega)) HB.out.size ?_)
                      intro v5 w5 hv5 hg5 hb5
                      have HB5 := hid (HB.out.own_grown HO.out hg5 (Nat.le_refl _))
                      have HO5 : Hid (Own .u8 5 w5 w.heap.size v5 lb) := hid (by simpa using hv5)
                      clear hv5 hg5 hb5
                      have hcv5 := convRd w5 (some ⟨b, off + (i + 1), none⟩) m (c - (i + 1)) lb (HLab.out.only_nil HB5.out) (.inr ⟨_, _, rfl⟩)
                      obtain ⟨Ao, co, rfl, _, _⟩ := own_form HO5.out
                      go_wp2_with fail
                      refine (contains1 _ lb HDot.out).mono ?_
                      rintro x w6 ⟨rfl, rfl⟩
                      clear hcv5
                      by_cases h46 : (46 : Int) ∈ lb
                      · have h9 := U3.out h46
                        simp only [Prod.mk.injEq] at h9
                        obtain ⟨rfl, rfl, rfl⟩ := h9
                        rw [decide_eq_true h46]
                        clear U3 U4 U5
                        go_wp2_with fail
                        try rw [Exit.noGoto_ret]
                        go_ret3
                        exact ⟨rfl, HB5.out⟩
                      · rw [decide_eq_false h46]
                        obtain ⟨N, hN⟩ : ∃ N, (lb).length = N := ⟨_, rfl⟩
                        have HN := hid hN
                        rw [hN] at U4 U5 ⊢
                        have hNb : N ≤ 320 := by rw [← hN]; first | omega | (simp; omega)
                        have hcN : 1 ≤ N := by rw [← hN]; first | omega | (simp; omega)
                        clear hN
                        by_cases h253 : 253 < N
                        · have h9 := U4.out h46 h253
                          simp only [Prod.mk.injEq] at h9
                          obtain ⟨rfl, rfl, rfl⟩ := h9
                          have h253z : (253 : Int) < (N : Int) := by omega
                          clear U3 U4 U5
                          go_wp2_with fail
                          try rw [Exit.noGoto_ret]
                          go_ret3
                          exact ⟨rfl, HB5.out⟩
                        · have HU2 := hid (U5.out h46 h253)
                          have h253z : ¬ (253 : Int) < (N : Int) := by omega
                          have HCn2 : Hid ((0 : Int) + 1 = 0 → (lb) = []) := hid (fun h => by omega)
                          rw [HN.out] at HO5
                          clear U3 U4 U5 HCn
                          go_wp2_with fail
                          go_roundg f
                          case measure => omega
                          case rel => exact ⟨p, i + 1 + m, bh, lb, (0 : Int) + 1, by first | rfl | (congr 1; omega), rfl, rfl, rfl, rfl, hl3, hp, HM2, by omega, by omega, by omega, by rw [HN.out]; omega, by rw [HN.out]; omega, HCn2, by first | exact HO5 | (rw [← HN.out] at HO5; exact HO5), HU2, HB5⟩
                    · have hczp : 0 < cnt := by omega
                      have HOa : Hid (Own .u8 5 (wr.alloc (.cells #[.int .u8 46] 5)) w.heap.size u7 out) := hid (HO.out.alloc _)
                      have HBa : Hid (Only [] w (wr.alloc (.cells #[.int .u8 46] 5))) := hid (HB.out.alloc _)
                      have HRa : Hid (Rd .u8 (wr.alloc (.cells #[.int .u8 46] 5)) (some ⟨wr.heap.size, 0, none⟩) 1 [46]) := hid (rd_one wr 5 46 (by decide))
                      have HDd : Hid (dotted out = out ++ [46]) := hid (by unfold dotted; rw [if_neg]; intro e; rw [e] at hc1; simp at hc1; omega)
                      rw [HDd.out] at U4 U5
                      clear HDd
                      go_wp2_with (at_builtin; refine wpList_app _ rfl (.tmp 82) (.tmp 83) _ rfl elemB w.heap.size _ out rfl HOa.out (some ⟨wr.heap.size, 0, none⟩) 1 1 [46] rfl HRa.out (by intro e; cases e) (by omega) (by unfold maxLen; omega) HBa.out.size ?_)
                      intro v4 w4 hv4 hg4 hb4
                      have HB4 := hid (HBa.out.own_grown HOa.out hg4 (Nat.le_refl _))
                      have HO4 := hid hv4
                      clear hv4 hg4 hb4
                      go_wp2_with (at_builtin; refine wpList_app _ rfl (.tmp 93) (.tmp 94) _ rfl elemB w.heap.size _ (out ++ [46]) rfl HO4.out (some ⟨b, off + (i + 1), none⟩) m (c - (i + 1)) lb rfl (HLab.out.only_nil HB4.out) (by intro e; cases e) (by first | omega | (simp; omega)) (by unfold maxLen; first | omega | (simp; omega)) HB4.out.size ?_)
                      intro v5 w5 hv5 hg5 hb5
                      have HB5 := hid (HB4.out.own_grown HO4.out hg5 (Nat.le_refl _))
                      have HO5 : Hid (Own .u8 5 w5 w.heap.size v5 (out ++ [46] ++ lb)) := hid (by simpa using hv5)
                      clear hv5 hg5 hb5
                      have hcv5 := convRd w5 (some ⟨b, off + (i + 1), none⟩) m (c - (i + 1)) lb (HLab.out.only_nil HB5.out) (.inr ⟨_, _, rfl⟩)
                      obtain ⟨Ao, co, rfl, _, _⟩ := own_form HO5.out
                      go_wp2_with fail
                      refine (contains1 _ lb HDot.out).mono ?_
                      rintro x w6 ⟨rfl, rfl⟩
                      clear hcv5
                      by_cases h46 : (46 : Int) ∈ lb
                      · have h9 := U3.out h46
                        simp only [Prod.mk.injEq] at h9
                        obtain ⟨rfl, rfl, rfl⟩ := h9
                        rw [decide_eq_true h46]
                        clear U3 U4 U5
                        go_wp2_with fail
                        try rw [Exit.noGoto_ret]
                        go_ret3
                        exact ⟨rfl, HB5.out⟩
                      · rw [decide_eq_false h46]
                        obtain ⟨N, hN⟩ : ∃ N, (out ++ [46] ++ lb).length = N := ⟨_, rfl⟩
                        have HN := hid hN
                        rw [hN] at U4 U5 ⊢
                        have hNb : N ≤ 320 := by rw [← hN]; first | omega | (simp; omega)
                        have hcN : cnt + 1 ≤ N := by rw [← hN]; first | omega | (simp; omega)
                        clear hN
                        by_cases h253 : 253 < N
                        · have h9 := U4.out h46 h253
                          simp only [Prod.mk.injEq] at h9
                          obtain ⟨rfl, rfl, rfl⟩ := h9
                          have h253z : (253 : Int) < (N : Int) := by omega
                          clear U3 U4 U5
                          go_wp2_with fail
                          try rw [Exit.noGoto_ret]
                          go_ret3
                          exact ⟨rfl, HB5.out⟩
                        · have HU2 := hid (U5.out h46 h253)
                          have h253z : ¬ (253 : Int) < (N : Int) := by omega
                          have HCn2 : Hid (cnt + 1 = 0 → (out ++ [46] ++ lb) = []) := hid (fun h => by omega)
                          rw [HN.out] at HO5
                          clear U3 U4 U5 HCn
                          go_wp2_with fail
                          go_roundg f
                          case measure => omega
                          case rel => exact ⟨p, i + 1 + m, bh, out ++ [46] ++ lb, cnt + 1, by first | rfl | (congr 1; omega), rfl, rfl, rfl, rfl, hl3, hp, HM2, by omega, by omega, by omega, by rw [HN.out]; omega, by rw [HN.out]; omega, HCn2, by first | exact HO5 | (rw [← HN.out] at HO5; exact HO5), HU2, HB5⟩
                  · have hl3z : (n : Int) < (i : Int) + 1 + (m : Int) := by omega
                    obtain ⟨rfl, rfl, rfl⟩ : r1 = [] ∧ r2 = 0 ∧ r3 = 2 := by
                      have h9 := HU.out
                      rw [u_short (by rw [HLen.out]; omega) (by rw [HC.out]; omega) (by rw [HC.out]; omega) (by rw [HC.out, HLen.out]; omega)] at h9
                      simp only [Prod.mk.injEq] at h9
                      exact ⟨h9.1.symm, h9.2.1.symm, h9.2.2.symm⟩
                    clear HU
                    go_wp2_with fail
                    try rw [Exit.noGoto_ret]
                    go_ret3
                    exact ⟨rfl, HB.out⟩
          · have hlz : ¬ (i : Int) < n := by omega
            obtain ⟨rfl, rfl, rfl⟩ : r1 = [] ∧ r2 = 0 ∧ r3 = 2 := by
              have h9 := HU.out
              rw [u_end (by rw [HLen.out]; omega)] at h9
              simp only [Prod.mk.injEq] at h9
              exact ⟨h9.1.symm, h9.2.1.symm, h9.2.2.symm⟩
            clear HU
            go_wp2_with fail
            try rw [Exit.noGoto_ret]
            go_ret3
            exact ⟨rfl, HB.out⟩
    · have HE : Hid (unp B (k : Int) = ([], 0, 2)) := hid (by unfold unp; rw [if_pos (.inr (by rw [HLen.out]; omega))])
      have h3 : (n : Int) ≤ (k : Int) := by omega
      go_enter Try.func14, Try.ntmps14
      go_wp2_with fail
      try go_step3
      try go_wp2_with fail
      try rw [Exit.noGoto_ret]
      go_ret3
      exact ⟨by rw [HE.out]; rfl, HB0.out⟩
end Go.Proofs.Ytfoecnlbiaiibaa.nam
