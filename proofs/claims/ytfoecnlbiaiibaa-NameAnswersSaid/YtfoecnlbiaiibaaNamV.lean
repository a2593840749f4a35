/-
  Chapter 21 (name): the document's Unpack of any bytes at any place, by a walk of its text. Conditions: none but those typed.
-/
import Derived.Test.YtfoecnlbiaiibaaNamU
namespace Go.Proofs.Ytfoecnlbiaiibaa.nam
set_option linter.unusedVariables false
set_option linter.unusedSimpArgs false
open Go.ChangeShapes Go.WideShapes Go.ChangeAt Go.RowKit Go.IntWalk Go.Lib
theorem str_dot (l : List Int) : strOfNums l ++ ⟨#[46]⟩ = strOfNums (l ++ [46]) := by rw [← strOf_app]; rfl
set_option maxRecDepth 100000 in
set_option maxHeartbeats 8000000 in
theorem unpD (w : World) (A : Option Addr) (n c : Nat) (B : List Int) (at_ : Int) (hB : Rd .u8 w A n B) (hnc : n ≤ c) (hcm : c ≤ maxLen) (hn : n ≤ 100000) : Calls Try.prog 15 #[.slice A n c, .int .i64 at_] w fun x w' => x = .returned (.tuple #[.string (strOfNums (unp B at_).1), .int .i64 (unp B at_).2.1, .int .i64 (unp B at_).2.2]) ∧ Only [] w w' := by
  have HL := hid hB
  have HLen := hid hB.len
  unfold maxLen at hcm
  have HB0 : Hid (Only [] w w) := hid (Only.refl _ _)
  clear hB
  by_cases h1 : at_ < 0
  · have HE : Hid (unp B at_ = ([], 0, 2)) := hid (by unfold unp; rw [if_pos (.inl h1)])
    go_enter Try.func15, Try.ntmps15
    go_wp2_with fail
    try rw [Exit.noGoto_ret]
    go_ret3
    exact ⟨by rw [HE.out]; rfl, HB0.out⟩
  · obtain ⟨k, rfl⟩ : ∃ k : Nat, at_ = k := ⟨at_.toNat, by omega⟩
    by_cases h2 : k < n
    · have HTop := hid (meas_top h2)
      have hR := unp_in (B := B) (k := k) (by rw [HLen.out]; exact h2)
      rw [HLen.out] at hR
      have HR0 := hid hR
      obtain ⟨⟨r1, r2, r3⟩, hRR⟩ : ∃ R, unp B (k : Int) = R := ⟨_, rfl⟩
      rw [hRR]
      rw [hRR] at HR0
      have HR1 : Hid (unpF B (n * (n + 2) + n + 1) k k (-1) [] = (r1, r2, r3)) := hid HR0.out.symm
      clear hR HR0 hRR h1
      obtain ⟨top, htop⟩ : ∃ top, n * (n + 2) + n + 1 = top := ⟨_, rfl⟩
      rw [htop] at HTop HR1
      clear htop
      have h3 : ¬ (n : Int) ≤ (k : Int) := by omega
      have hk0 : decide ((k : Int) < 0) = false := by simp
      have hk1 : decide (n ≤ k) = false := decide_eq_false (by omega)
      go_enter Try.func15, Try.ntmps15
      go_wp2_with fail
      go_loopg [7, 8, 9, 10] top (fun gk vs vp vi vb wr => ∃ (p i : Nat) (bh : Int) (out : List Int), vi = .int .i64 i ∧ vp = .int .i64 p ∧ vb = .int .i64 bh ∧ vs = .string (strOfNums out) ∧ i ≤ n ∧ p < n ∧ Hid (meas n p i < gk) ∧ -1 ≤ bh ∧ bh ≤ 200000 ∧ out.length ≤ 253 ∧ Hid (unpF B gk p i bh out = (r1, r2, r3)) ∧ Hid (Only [] w wr))
      case atStart => exact ⟨k, k, -1, [], rfl, rfl, rfl, rfl, by omega, h2, HTop, by omega, by omega, by simp, HR1, HB0⟩
      case round =>
        clear HTop HR1 HB0
        obtain ⟨p, i, bh, out, rfl, rfl, rfl, rfl, hi, hp, HM, hb1, hb2, ho, HU, HB⟩ := hrel
        cases gk with
        | zero => exact absurd HM.out (by omega)
        | succ f =>
          by_cases hlt : i < n
          · have hlz : ¬ (n : Int) ≤ (i : Int) := by omega
            obtain ⟨b, off, rfl, _, hcB⟩ := HL.out.at_ (by omega)
            have q0 := HB.out.keep (hcB i hlt)
            have hcb := u8Bd (HL.out.getD_wf i hlt)
            obtain ⟨cv, hcv⟩ : ∃ cv, B.getD i 0 = cv := ⟨_, rfl⟩
            rw [hcv] at q0 hcb
            have HC := hid hcv
            clear hcv
            by_cases c0 : cv = 0
            · subst c0
              by_cases hbh : bh < 0
              · skip
                obtain ⟨rfl, rfl, rfl⟩ : r1 = out ∧ r2 = (i : Int) + 1 ∧ r3 = 0 := by
                  have h9 := HU.out
                  rw [u_zero (by rw [HLen.out]; omega) HC.out, if_pos hbh] at h9
                  simp only [Prod.mk.injEq] at h9
                  exact ⟨h9.1.symm, h9.2.1.symm, h9.2.2.symm⟩
                clear HU
                go_wp2_with fail
                try rw [Exit.noGoto_ret]
                go_ret3
                exact ⟨rfl, HB.out⟩
              · skip
                obtain ⟨rfl, rfl, rfl⟩ : r1 = out ∧ r2 = bh ∧ r3 = 0 := by
                  have h9 := HU.out
                  rw [u_zero (by rw [HLen.out]; omega) HC.out, if_neg hbh] at h9
                  simp only [Prod.mk.injEq] at h9
                  exact ⟨h9.1.symm, h9.2.1.symm, h9.2.2.symm⟩
                clear HU
                go_wp2_with fail
                try rw [Exit.noGoto_ret]
                go_ret3
                exact ⟨rfl, HB.out⟩
            · have d0 : (cv == 0) = false := by simpa using c0
              by_cases c1 : 192 ≤ cv
              · by_cases hl1 : i + 1 < n
                · have q1 := HB.out.keep (hcB (i + 1) hl1)
                  have hcb1 := u8Bd (HL.out.getD_wf (i + 1) hl1)
                  obtain ⟨cw, hcw⟩ : ∃ cw, B.getD (i + 1) 0 = cw := ⟨_, rfl⟩
                  rw [hcw] at q1 hcb1
                  have HW := hid hcw
                  clear hcw
                  have hl1z : ¬ (n : Int) ≤ (i : Int) + 1 := by omega
                  obtain ⟨T, hT⟩ : ∃ T : Nat, tgt B i = T := ⟨_, rfl⟩
                  have hTv : (cv - 192) * 256 + cw = (T : Int) := by rw [← hT]; unfold tgt; rw [HC.out, HW.out]; omega
                  have HT := hid hT
                  have hTlt : T < 20000 := by omega
                  clear hT
                  by_cases hpt : p ≤ T
                  · have hpz : (p : Int) ≤ (T : Int) := by omega
                    obtain ⟨rfl, rfl, rfl⟩ : r1 = [] ∧ r2 = 0 ∧ r3 = 10 := by
                      have h9 := HU.out
                      rw [u_jloop (by rw [HLen.out]; omega) (by rw [HC.out]; omega) (by rw [HT.out]; exact hpt)] at h9
                      simp only [Prod.mk.injEq] at h9
                      exact ⟨h9.1.symm, h9.2.1.symm, h9.2.2.symm⟩
                    clear HU
                    go_wp2_with fail
                    try rw [Exit.noGoto_ret]
                    go_ret3
                    exact ⟨rfl, HB.out⟩
                  · have hpz : ¬ (p : Int) ≤ (T : Int) := by omega
                    have HM2 : Hid (meas n T T < f) := hid (by have h1 := meas_jump (n := n) (p := p) (i := i) (t := T) (by omega); have h2 := HM.out; omega)
                    by_cases hbh : bh < 0
                    · skip
                      have HU2 : Hid (unpF B f T T ((i : Int) + 2) out = (r1, r2, r3)) := hid (by have h9 := HU.out; rw [u_jump (by rw [HLen.out]; omega) (by rw [HC.out]; omega) (by rw [HT.out]; exact hpt), HT.out, if_pos hbh] at h9; exact h9)
                      clear HU HM
                      go_wp2_with fail
                      go_roundg f
                      case measure => omega
                      case rel => exact ⟨T, T, ((i : Int) + 2), out, by first | rfl | (congr 1; omega), by first | rfl | (congr 1; omega), rfl, rfl, by omega, by omega, HM2, by omega, by omega, ho, HU2, HB⟩
                    · skip
                      have HU2 : Hid (unpF B f T T bh out = (r1, r2, r3)) := hid (by have h9 := HU.out; rw [u_jump (by rw [HLen.out]; omega) (by rw [HC.out]; omega) (by rw [HT.out]; exact hpt), HT.out, if_neg hbh] at h9; exact h9)
                      clear HU HM
                      go_wp2_with fail
                      go_roundg f
                      case measure => omega
                      case rel => exact ⟨T, T, bh, out, by first | rfl | (congr 1; omega), by first | rfl | (congr 1; omega), rfl, rfl, by omega, by omega, HM2, by omega, by omega, ho, HU2, HB⟩
                · have hl1z : (n : Int) ≤ (i : Int) + 1 := by omega
                  obtain ⟨rfl, rfl, rfl⟩ : r1 = [] ∧ r2 = 0 ∧ r3 = 2 := by
                    have h9 := HU.out
                    rw [u_jend (by rw [HLen.out]; omega) (by rw [HC.out]; omega) (by rw [HLen.out]; omega)] at h9
                    simp only [Prod.mk.injEq] at h9
                    exact ⟨h9.1.symm, h9.2.1.symm, h9.2.2.symm⟩
                  clear HU
                  go_wp2_with fail
                  try rw [Exit.noGoto_ret]
                  go_ret3
                  exact ⟨rfl, HB.out⟩
              · by_cases c2 : 63 < cv
                · skip
                  obtain ⟨rfl, rfl, rfl⟩ : r1 = [] ∧ r2 = 0 ∧ r3 = 3 := by
                    have h9 := HU.out
                    rw [u_form (by rw [HLen.out]; omega) (by rw [HC.out]; omega) (by rw [HC.out]; omega)] at h9
                    simp only [Prod.mk.injEq] at h9
                    exact ⟨h9.1.symm, h9.2.1.symm, h9.2.2.symm⟩
                  clear HU
                  go_wp2_with fail
                  try rw [Exit.noGoto_ret]
                  go_ret3
                  exact ⟨rfl, HB.out⟩
                · skip
                  have c3 : 1 ≤ cv := by omega
                  obtain ⟨m, rfl⟩ : ∃ m : Nat, cv = m := ⟨cv.toNat, by omega⟩
                  by_cases hl3 : i + 1 + m ≤ n
                  · have hl3z : ¬ (n : Int) < (i : Int) + 1 + (m : Int) := by omega
                    have hsl : ∀ W : World, (Instr.slice 22 (.slice (some ⟨b, off, none⟩) n c) (some (.int .i64 ((i : Int) + 1))) (some (.int .i64 ((i : Int) + 1 + (m : Int)))) none).run Try.prog W = .ok (.slice (some ⟨b, off + (i + 1), none⟩) m (c - (i + 1))) W := fun W => by
                      have g1 : ¬ (c : Int) = (i : Int) + 1 := by omega
                      have g2 : (i : Int) + 1 ≤ (i : Int) + 1 + (m : Int) := by omega
                      have g3 : (i : Int) + 1 + (m : Int) ≤ (c : Int) := by omega
                      have q1 : (0 : Int) ≤ (i : Int) + 1 + (m : Int) := by omega
                      have q2 : (0 : Int) ≤ (i : Int) + 1 ∧ (i : Int) + 1 ≤ max ((i : Int) + 1 + (m : Int)) 0 := by omega
                      have q3 : ((i : Int) + 1 + (m : Int)).toNat - (i + 1) = m := by omega
                      go_simp
                      first | done | rw [if_pos q1, if_pos q2, q3] | skip
                      all_goals first | done | omega
                    have hlab : Rd .u8 w (some ⟨b, off + (i + 1), none⟩) m (lab B i) := by
                      have h1 := (HL.out.take (i + 1 + m) hl3).drop (i + 1) (by omega)
                      have e1 : lab B i = (B.take (i + 1 + m)).drop (i + 1) := by
                        unfold lab
                        rw [HC.out, List.drop_take]
                        congr 1
                        omega
                      rw [e1]
                      have e2 : i + 1 + m - (i + 1) = m := by omega
                      rwa [e2] at h1
                    have hat : ∀ j, j < m → (lab B i).getD j 0 = B.getD (i + 1 + j) 0 := fun j hj => by
                      unfold lab
                      rw [HC.out, List.getD_eq_getElem?_getD, List.getElem?_take, if_pos (by omega), List.getElem?_drop, List.getD_eq_getElem?_getD]
                    have HAt := hid hat
                    obtain ⟨lb, hlb⟩ : ∃ lb, lab B i = lb := ⟨_, rfl⟩
                    rw [hlb] at hlab HAt
                    have HLb := hid hlb
                    have hlbl := hlab.len
                    have HLab := hid hlab
                    have U3 : Hid ((46 : Int) ∈ lb → (r1, r2, r3) = ([], 0, 9)) := hid (fun h => by have h9 := HU.out; rw [u_dot (by rw [HLen.out]; omega) (by rw [HC.out]; omega) (by rw [HC.out]; omega) (by rw [HC.out, HLen.out]; omega) (by rw [HLb.out]; exact h)] at h9; exact h9.symm)
                    have U4 : Hid ((46 : Int) ∉ lb → 253 < (dotted out ++ lb).length → (r1, r2, r3) = ([], 0, 9)) := hid (fun h h2 => by have h9 := HU.out; rw [u_long (by rw [HLen.out]; omega) (by rw [HC.out]; omega) (by rw [HC.out]; omega) (by rw [HC.out, HLen.out]; omega) (by rw [HLb.out]; exact h) (by rw [HLb.out]; exact h2)] at h9; exact h9.symm)
                    have U5 : Hid ((46 : Int) ∉ lb → ¬ 253 < (dotted out ++ lb).length → unpF B f p (i + 1 + m) bh (dotted out ++ lb) = (r1, r2, r3)) := hid (fun h h2 => by have h9 := HU.out; rw [u_next (by rw [HLen.out]; omega) (by rw [HC.out]; omega) (by rw [HC.out]; omega) (by rw [HC.out, HLen.out]; omega) (by rw [HLb.out]; exact h) (by rw [HLb.out]; exact h2), HC.out, HLb.out] at h9; exact h9)
                    have HM2 : Hid (meas n p (i + 1 + m) < f) := hid (by have h1 := meas_next (n := n) (p := p) (i := i) (j := i + 1 + m) (by omega) hlt; have h2 := HM.out; omega)
                    clear hlab hat hlb HU HM
                    go_wp2_with fail
                    go_loopw [13] (fun v wr2 => ∃ j : Nat, j ≤ m ∧ v = .int .i64 ((i : Int) + 1 + j) ∧ Hid (∀ q, q < j → lb.getD q 0 ≠ 46) ∧ Hid (Only [] w wr2)) (fun v _ => (i + 1 + m) - (RowKit.intOf v).toNat)
                    case atStart => exact ⟨0, by omega, by simp, hid (fun q hq => absurd hq (by omega)), HB⟩
                    case round =>
                      clear HB
                      obtain ⟨j, hj, rfl, HN, HB⟩ := hrel
                      by_cases hjm : j < m
                      · have hjz : (i : Int) + 1 + (j : Int) ≤ (i : Int) + (m : Int) := by omega
                        have q5 := HB.out.keep (hcB (i + 1 + j) (by omega))
                        have e5 := HAt.out j hjm
                        rw [← e5] at q5
                        have q6 : (((i : Int) + 1 + (j : Int))).toNat = i + 1 + j := by omega
                        have q7 : (i : Int) + 1 + (j : Int) < (n : Int) := by omega
                        obtain ⟨u, hu⟩ : ∃ u, lb.getD j 0 = u := ⟨_, rfl⟩
                        rw [hu] at q5
                        have HUu := hid hu
                        clear hu e5
                        by_cases h46 : u = 46
                        · subst h46
                          have h9 := U3.out (by rw [← HUu.out, List.getD_eq_getElem?_getD, List.getElem?_eq_getElem (by rw [hlbl]; exact hjm)]; exact List.getElem_mem _)
                          simp only [Prod.mk.injEq] at h9
                          obtain ⟨rfl, rfl, rfl⟩ := h9
                          clear U3 U4 U5
                          go_wp2_with fail
                          try rw [Exit.noGoto_ret]
                          go_ret3
                          exact ⟨rfl, HB.out⟩
                        · have d46 : (u == 46) = false := by simpa using h46
                          have HNe := hid h46
                          clear h46
                          go_wp2_with fail
                          go_roundw
                          case rel => exact ⟨j + 1, by omega, by first | rfl | (congr 1; omega), hid (fun q hq => by
                            rcases Nat.lt_or_ge q j with h1 | h1
                            · exact HN.out q h1
                            · rw [show q = j from by omega, HUu.out]; exact HNe.out), HB⟩
                          case measure => simp [RowKit.intOf]; omega
                      · obtain rfl : m = j := by omega
                        have hjz : ¬ (i : Int) + 1 + (m : Int) ≤ (i : Int) + (m : Int) := by omega
                        have HN46 : Hid ((46 : Int) ∉ lb) := hid (fun h => by
                          obtain ⟨q, hq, e⟩ := List.mem_iff_getElem.1 h
                          exact HN.out q (by omega) (by rw [List.getD_eq_getElem?_getD, List.getElem?_eq_getElem hq, e]; rfl))
                        have hcvt := convRd wr (some ⟨b, off + (i + 1), none⟩) m (c - (i + 1)) lb (HLab.out.only_nil HB.out) (.inr ⟨_, _, rfl⟩)
                        by_cases hout : out = []
                        · skip
                          have hS : (strOfNums out).size = out.length := strOf_size out
                          have hSL : (strOfNums lb).size = m := by rw [strOf_size, hlbl]
                          have HDd : Hid (dotted out ++ lb = lb) := hid (by unfold dotted; rw [if_pos hout]; rfl)
                          have e0 : (strOfNums out).toList.isEmpty = true := by rw [ByteArray.toList_eq, strData]; rw [hout]; rfl
                          have HStr : Hid (strOfNums out ++ strOfNums lb = strOfNums (lb)) := hid (by rw [strOf_app, hout]; rfl)
                          have HLn : Hid ((lb).length = m) := hid (by first | (simp [hlbl]; done) | (simp [hlbl]; omega))
                          rw [HDd.out] at U4 U5
                          clear HDd
                          obtain ⟨S, hSd⟩ : ∃ S, strOfNums out = S := ⟨_, rfl⟩
                          obtain ⟨SL, hSLd⟩ : ∃ SL, strOfNums lb = SL := ⟨_, rfl⟩
                          rw [hSd] at hS e0 HStr ⊢
                          rw [hSLd] at hSL HStr hcvt
                          have HSLq : Hid (SL = strOfNums lb) := hid hSLd.symm
                          have hS0 : out.length = 0 := by rw [hout]; rfl
                          clear hSd hSLd hout
                          have e1 : ¬ 9223372036854775807 < S.size + 1 := by omega
                          have e2 : ¬ 9223372036854775807 < S.size + SL.size := by omega
                          by_cases h253 : 253 < (lb).length
                          · have h9 := U4.out HN46.out h253
                            simp only [Prod.mk.injEq] at h9
                            obtain ⟨rfl, rfl, rfl⟩ := h9
                            have e3 : (253 : Int) < (S.size : Int) + (SL.size : Int) := by have := HLn.out; omega
                            clear U3 U4 U5 h253 hS hSL
                            go_wp2_with fail
                            try rw [Exit.noGoto_ret]
                            go_ret3
                            exact ⟨rfl, HB.out⟩
                          · have HU2 := hid (U5.out HN46.out h253)
                            have e3 : ¬ (253 : Int) < (S.size : Int) + (SL.size : Int) := by have := HLn.out; omega
                            have HL253 := hid h253
                            clear U3 U4 U5 h253 hS hSL
                            go_wp2_with fail
                            go_roundg f
                            case measure => omega
                            case rel => exact ⟨p, i + 1 + m, bh, lb, by first | rfl | (congr 1; omega), rfl, rfl, congrArg Value.string (HStr.out.trans HSLq.out), hl3, hp, HM2, by omega, by omega, by have := HL253.out; omega, HU2, HB⟩
                        · skip
                          have hS : (strOfNums out).size = out.length := strOf_size out
                          have hSL : (strOfNums lb).size = m := by rw [strOf_size, hlbl]
                          have HDd : Hid (dotted out ++ lb = out ++ [46] ++ lb) := hid (by unfold dotted; rw [if_neg hout])
                          have e0 : (strOfNums out).toList.isEmpty = false := by rw [ByteArray.toList_eq, strData]; cases out with | nil => exact absurd rfl hout | cons a r => rfl
                          have HStr : Hid (strOfNums out ++ (⟨#[46]⟩ : ByteArray) ++ strOfNums lb = strOfNums (out ++ [46] ++ lb)) := hid (by rw [str_dot, strOf_app])
                          have HLn : Hid ((out ++ [46] ++ lb).length = out.length + 1 + m) := hid (by first | (simp [hlbl]; done) | (simp [hlbl]; omega))
                          rw [HDd.out] at U4 U5
                          clear HDd
                          obtain ⟨S, hSd⟩ : ∃ S, strOfNums out = S := ⟨_, rfl⟩
                          obtain ⟨SL, hSLd⟩ : ∃ SL, strOfNums lb = SL := ⟨_, rfl⟩
                          rw [hSd] at hS e0 HStr ⊢
                          rw [hSLd] at hSL HStr hcvt
                          have HSLq : Hid (SL = strOfNums lb) := hid hSLd.symm
                          skip
                          clear hSd hSLd hout
                          have e1 : ¬ 9223372036854775807 < S.size + 1 := by omega
                          have e2 : ¬ 9223372036854775807 < S.size + 1 + SL.size := by omega
                          by_cases h253 : 253 < (out ++ [46] ++ lb).length
                          · have h9 := U4.out HN46.out h253
                            simp only [Prod.mk.injEq] at h9
                            obtain ⟨rfl, rfl, rfl⟩ := h9
                            have e3 : (253 : Int) < (S.size : Int) + 1 + (SL.size : Int) := by have := HLn.out; omega
                            clear U3 U4 U5 h253 hS hSL
                            go_wp2_with fail
                            try rw [Exit.noGoto_ret]
                            go_ret3
                            exact ⟨rfl, HB.out⟩
                          · have HU2 := hid (U5.out HN46.out h253)
                            have e3 : ¬ (253 : Int) < (S.size : Int) + 1 + (SL.size : Int) := by have := HLn.out; omega
                            have HL253 := hid h253
                            clear U3 U4 U5 h253 hS hSL
                            go_wp2_with fail
                            go_roundg f
                            case measure => omega
                            case rel => exact ⟨p, i + 1 + m, bh, out ++ [46] ++ lb, by first | rfl | (congr 1; omega), rfl, rfl, by first | exact congrArg Value.string HStr.out | rw [HStr.out] | (rw [← HStr.out]; rfl), hl3, hp, HM2, by omega, by omega, by have := HL253.out; omega, HU2, HB⟩
                  · have hl3z : (n : Int) < (i : Int) + 1 + (m : Int) := by omega
                    obtain ⟨rfl, rfl, rfl⟩ : r1 = [] ∧ r2 = 0 ∧ r3 = 2 := by
                      have h9 := HU.out
                      rw [u_short (by rw [HLen.out]; omega) (by rw [HC.out]; omega) (by rw [HC.out]; omega) (by rw [HC.out, HLen.out]; omega)] at h9
                      simp only [Prod.mk.injEq] at h9
                      exact ⟨h9.1.symm, h9.2.1.symm, h9.2.2.symm⟩
                    clear HU
                    go_wp2_with fail
                    try rw [Exit.noGoto_ret]
                    go_ret3
                    exact ⟨rfl, HB.out⟩
          · have hlz : (n : Int) ≤ (i : Int) := by omega
            obtain ⟨rfl, rfl, rfl⟩ : r1 = [] ∧ r2 = 0 ∧ r3 = 2 := by
              have h9 := HU.out
              rw [u_end (by rw [HLen.out]; omega)] at h9
              simp only [Prod.mk.injEq] at h9
              exact ⟨h9.1.symm, h9.2.1.symm, h9.2.2.symm⟩
            clear HU
            go_wp2_with fail
            try rw [Exit.noGoto_ret]
            go_ret3
            exact ⟨rfl, HB.out⟩
    · have HE : Hid (unp B (k : Int) = ([], 0, 2)) := hid (by unfold unp; rw [if_pos (.inr (by rw [HLen.out]; omega))])
      have h3 : (n : Int) ≤ (k : Int) := by omega
      go_enter Try.func15, Try.ntmps15
      go_wp2_with fail
      try rw [Exit.noGoto_ret]
      go_ret3
      exact ⟨by rw [HE.out]; rfl, HB0.out⟩
end Go.Proofs.Ytfoecnlbiaiibaa.nam
