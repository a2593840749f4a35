/-
  Chapter 16 (cong): what each function of the program and of the document's answer does to its object, by a walk of its text, part H. Conditions: the numbers of the object lie in their bounds.
-/
import Derived.Test.YtoogifoopafghabCngG
import Derived.Deep.RegionHeld3
namespace Go.Proofs.Ytoogifoopafghab.cng
set_option linter.unusedVariables false
set_option linter.unusedSimpArgs false
open Go.ChangeShapes Go.WideShapes Go.ChangeAt Go.RowKit Go.IntWalk Go.Lib
theorem startsOut (m n : Int) (w : World) (h : m < 1 ∨ 3000 < m ∨ n < 0 ∨ 2000 < n) : Calls Try.prog 11 #[.int .i64 m, .int .i64 n] w fun e w' => e = .returned (.bool true) ∧ Only [] w w' := by
  go_enter Try.func11, Try.ntmps11
  go_wp2_with (go_at_call 35; refine (known _).mono ?_; rintro e w2 ⟨rfl, hk⟩)
  all_goals first
    | (go_ret; exact ⟨rfl, by assumption⟩)
    | (exfalso; omega)
theorem ao_start (m win : Int) (hm : 1 ≤ m ∧ m ≤ 3000) (hw : m ≤ win ∧ win ≤ 400000) :
    (win < 65535 → clampW (aoF m win 65535 m) = win + m) ∧ (¬ win < 65535 → 1 ≤ clampW (aoF m win 65535 m) - win ∧ clampW (aoF m win 65535 m) - win ≤ m ∧ clampW (aoF m win 65535 m) - win ≤ 138) := by
  have hq := quo_bd m win (by omega) hw.1
  have h2 : ¬ win < 65535 → m * m / win ≤ 138 := by
    intro h
    have h3 : m * m ≤ 3000 * 3000 := Int.mul_le_mul hm.2 hm.2 (by omega) (by omega)
    have h4 : m * m / win < 139 := Int.ediv_lt_of_lt_mul (by omega) (by omega)
    omega
  unfold clampW aoF
  constructor
  · intro h; rw [if_pos h]; omega
  · intro h; have := h2 h; rw [if_neg h]; omega
set_option maxHeartbeats 2000000 in
theorem startsIn (m n : Int) (w : World) (h : 1 ≤ m ∧ m ≤ 3000) (hn : 0 ≤ n ∧ n ≤ 2000) : Calls Try.prog 11 #[.int .i64 m, .int .i64 n] w fun e w' => e = .returned (.bool true) ∧ Only [] w w' := by
  go_enter Try.func11, Try.ntmps11
  go_wp2_with fail
  refine (newGood m w (by omega) (by omega)).mono ?_
  rintro e w1 ⟨c, g, rfl, hF⟩
  have HF := hid hF; clear hF
  have HG : Hid (c ∉ [g]) := hid (by have := HF.out.old; simp; omega)
  go_wp2_with fail
  go_loopw [7] (fun i wr => ∃ (j : Nat) (win : Int), i = .int .i64 j ∧ (j : Int) ≤ n ∧ (m ≤ win ∧ win ≤ 68535 + 138 * j) ∧ Hid (Snd wr g m win 65535 0 0 false 56 57) ∧ Hid (Cob wr c g) ∧ Hid (Only [] w wr)) (fun i _ => n.toNat - (intOf i).toNat)
  case atStart => exact ⟨0, 2 * m, rfl, by omega, by omega, hid HF.out.snd, hid HF.out.cob, hid HF.out.only⟩
  case round =>
    obtain ⟨j, win, rfl, hj, hw, HS, HC, HO⟩ := hrel
    by_cases hlt : (j : Int) < n
    · have hA := ao_start m win h (by omega)
      have HA := hid hA; clear hA
      go_wp2_with fail
      refine (win1 c g _ _ _ _ _ _ _ _ _ HC.out HS.out).mono ?_
      rintro e w2 ⟨rfl, n2, rfl⟩
      go_wp2_with fail
      refine (ackedO c g _ m win 65535 0 0 m _ 0 _ (HC.out.drewN _) (HS.out.drewN _) HF.out.old.2.2 (by omega) (by omega) (by omega) (by omega)).mono ?_
      rintro e w3 ⟨rfl, o3, h3⟩
      rw [show max m 0 = m from by omega] at h3
      have H3 := hid h3; have O3 : Hid (Only [] w w3) := hid (fresh1 (HO.out.drewN _) HF.out.old.1 o3); have HC3 := hid (Ob.only (HC.out.drewN _) o3 HG.out); clear h3 o3
      have HA' := hid HA.out; clear HA
      generalize clampW (aoF m win 65535 m) = win' at *
      have hA := HA'.out
      by_cases hx : win < 65535
      · obtain rfl : win' = win + m := hA.1 hx
        clear hA
        go_wp2_with fail
        refine (win1 c g _ _ _ _ _ _ _ _ _ HC3.out H3.out).mono ?_
        rintro e w4 ⟨rfl, n4, rfl⟩
        go_wp2
        all_goals
          go_roundw
          case rel => exact ⟨j + 1, win + m, by go_num, by omega, by omega, hid (H3.out.drewN _), hid (HC3.out.drewN _), hid (O3.out.drewN _)⟩
          case measure => simp [intOf]; omega
      · have hA2 := hA.2 (by omega)
        clear hA
        go_wp2_with fail
        refine (win1 c g _ _ _ _ _ _ _ _ _ HC3.out H3.out).mono ?_
        rintro e w4 ⟨rfl, n4, rfl⟩
        go_wp2
        all_goals
          go_roundw
          case rel => exact ⟨j + 1, win', by go_num, by omega, by omega, hid (H3.out.drewN _), hid (HC3.out.drewN _), hid (O3.out.drewN _)⟩
          case measure => simp [intOf]; omega
    · go_wp2_with fail
      refine (known _).mono ?_
      rintro e wE ⟨rfl, oE⟩
      have OE := hid oE; clear oE
      go_wp2
      go_ret
      exact ⟨rfl, HO.out.trans OE.out⟩
theorem startsLaw (m n : Int) (w : World) : Calls Try.prog 11 #[.int .i64 m, .int .i64 n] w fun e w' => e = .returned (.bool true) ∧ Only [] w w' := by
  by_cases h : m < 1 ∨ 3000 < m ∨ n < 0 ∨ 2000 < n
  · exact startsOut m n w h
  · exact startsIn m n w (by omega) (by omega)
end Go.Proofs.Ytoogifoopafghab.cng
