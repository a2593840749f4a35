/-
  Chapter 3 (wheel): the law WheelRoom, by a walk of its text. Conditions: none but those typed.
-/
import Derived.Test.YtnachendenodkaaWhlM
namespace Go.Proofs.Ytnachendenodkaa.whl
set_option linter.unusedVariables false
set_option linter.unusedSimpArgs false
open Go.ChangeShapes Go.WideShapes Go.ChangeAt Go.RowKit Go.IntWalk Go.Lib
set_option maxHeartbeats 8000000 in
set_option maxRecDepth 100000 in
theorem room (w : World) (key a : Int) : Calls Try.prog 5 #[.int .i64 key, .int .i64 a] w fun x w' => x = .returned (.bool true) ∧ Only [] w w' := by
  have hz := zeroW
  have H0 := hid (newX w)
  have KN := hid known1
  go_enter Try.func5, Try.ntmps5
  go_wp2_with fail
  generalize w.alloc (.cells newC 27) = W0 at *
  go_loopw [6] (fun i wr => ∃ (k : Nat) (vs : List Value), k ≤ 256 ∧ i = .int .i64 k ∧ Hid (WX w wr w.heap.size vs (row k))) (fun i _ => 256 - (intOf i).toNat)
  case atStart => exact ⟨0, vs0, by omega, rfl, H0⟩
  case round =>
    clear H0
    obtain ⟨k, vs, hk, rfl, HX⟩ := hrel
    by_cases hlt : k < 256
    · have e1 := hid (row_succ k hlt)
      have hk2 : (k : Int) < 256 := by omega
      go_wp2_with fail
      refine (setX w _ _ _ _ k k HX.out).mono ?_
      rintro x w1 ⟨rfl, vs1, h1⟩
      rw [e1.out.2] at h1
      rw [e1.out.1]
      have H1 := hid h1; clear h1
      go_wp2_with fail
      go_roundw
      case rel => exact ⟨k + 1, vs1, by omega, by go_num, H1⟩
      case measure => simp [intOf]; omega
    · obtain rfl : k = 256 := by omega
      have HS := fun W (hW : WX w W w.heap.size vs (row 256)) => setX w W _ _ _ key a hW
      have HSS := hid HS
      clear HS
      have hl256 : Hid ((row 256).length = 256) := hid (row_len 256)
      by_cases g1 : 0 ≤ a
      · by_cases g2 : a ≤ 1099511627776
        · by_cases g3 : 0 ≤ key
          · by_cases g4 : key < 256
            · -- it is there
              obtain ⟨t, ht, htk⟩ := row_yes 256 key g3 g4
              have hh : has (row 256) key = true := has_yes ht htk
              have e0 : Hid (setE (row 256) key a = 0) := hid (by unfold setE; rw [if_neg (by omega), if_neg (by simp [hh])])
              have s0 := hid (setS_ok e0.out)
              have HM : Hid (⟨key, a⟩ ∈ rm (row 256) key ++ [(⟨key, a⟩ : Tm)]) := hid (by simp)
              have HLn : Hid ((rm (row 256) key ++ [(⟨key, a⟩ : Tm)]).length = 256) := hid (by
                rw [List.length_append]
                have hnd : (keys (row 256)).Nodup := HX.out.v.key
                have := rm_len hnd ht htk
                rw [row_len] at this
                simpa using this)
              clear hh ht htk t
              go_wp2_with fail
              refine (HSS.out _ HX.out).mono ?_
              rintro x w1 ⟨rfl, vs1, h1⟩
              rw [s0.out] at h1
              rw [e0.out]
              have H1 := hid h1; clear h1
              obtain ⟨L, hL⟩ : ∃ L, rm (row 256) key ++ [(⟨key, a⟩ : Tm)] = L := ⟨_, rfl⟩
              rw [hL] at H1 HM HLn
              clear hL
              go_wp2_with fail
              refine (atL _ _ _ _ key H1.out.v).mono ?_
              rintro x w2 ⟨hx, o2⟩
              have H2 := hid (H1.out.only_nil o2); clear o2
              have hx2 : x = .returned (.tuple #[.int .i64 a, .bool true]) := by
                rcases hx with ⟨_, hno⟩ | ⟨t, ht, htk, rfl⟩
                · exact absurd (has_yes HM.out rfl) (by rw [hno]; simp)
                · rw [key_one H1.out.v.key ht HM.out htk]
              subst hx2
              clear hx
              go_wp2_with fail
              refine (lenX H2.out).mono ?_
              rintro x w3 ⟨rfl, h3⟩
              rw [HLn.out]
              have H3 := hid h3; clear h3
              go_wp2_with fail
              refine (KN.out _).mono ?_
              rintro x w9 ⟨rfl, o9⟩
              have Q9 := hid (H3.out.o.trans o9); clear o9
              go_wp2_with fail
              go_ret
              exact ⟨rfl, Q9.out⟩
            · have e0 : Hid (setE (row 256) key a = 6) := hid (by unfold setE; rw [if_neg (by omega), if_pos ⟨row_no 256 key (.inr (by omega)), by rw [row_len]; exact Nat.le_refl _⟩])
              have s0 : Hid (setS (row 256) key a = row 256) := hid (by unfold setS; rw [e0.out]; rfl)
              go_wp2_with fail
              refine (HSS.out _ HX.out).mono ?_
              rintro x w1 ⟨rfl, vs1, h1⟩
              rw [s0.out] at h1
              rw [e0.out]
              have H1 := hid h1; clear h1
              go_wp2_with fail
              refine (lenX H1.out).mono ?_
              rintro x w3 ⟨rfl, h3⟩
              rw [hl256.out]
              have H3 := hid h3; clear h3
              go_wp2_with fail
              refine (KN.out _).mono ?_
              rintro x w9 ⟨rfl, o9⟩
              have Q9 := hid (H3.out.o.trans o9); clear o9
              go_wp2_with fail
              go_ret
              exact ⟨rfl, Q9.out⟩
          · have e0 : Hid (setE (row 256) key a = 6) := hid (by unfold setE; rw [if_neg (by omega), if_pos ⟨row_no 256 key (.inl (by omega)), by rw [row_len]; exact Nat.le_refl _⟩])
            have s0 : Hid (setS (row 256) key a = row 256) := hid (by unfold setS; rw [e0.out]; rfl)
            go_wp2_with fail
            refine (HSS.out _ HX.out).mono ?_
            rintro x w1 ⟨rfl, vs1, h1⟩
            rw [s0.out] at h1
            rw [e0.out]
            have H1 := hid h1; clear h1
            go_wp2_with fail
            refine (lenX H1.out).mono ?_
            rintro x w3 ⟨rfl, h3⟩
            rw [hl256.out]
            have H3 := hid h3; clear h3
            go_wp2_with fail
            refine (KN.out _).mono ?_
            rintro x w9 ⟨rfl, o9⟩
            have Q9 := hid (H3.out.o.trans o9); clear o9
            go_wp2_with fail
            go_ret
            exact ⟨rfl, Q9.out⟩
        · have e0 : Hid (setE (row 256) key a = 1) := hid (by unfold setE; rw [if_pos (by omega)])
          have g2d : decide (a ≤ 1099511627776) = false := by simpa using g2
          have s0 : Hid (setS (row 256) key a = row 256) := hid (by unfold setS; rw [e0.out]; rfl)
          go_wp2_with fail
          refine (HSS.out _ HX.out).mono ?_
          rintro x w1 ⟨rfl, vs1, h1⟩
          rw [s0.out] at h1
          rw [e0.out]
          have H1 := hid h1; clear h1
          go_wp2_with fail
          refine (lenX H1.out).mono ?_
          rintro x w3 ⟨rfl, h3⟩
          rw [hl256.out]
          have H3 := hid h3; clear h3
          go_wp2_with fail
          refine (KN.out _).mono ?_
          rintro x w9 ⟨rfl, o9⟩
          have Q9 := hid (H3.out.o.trans o9); clear o9
          go_wp2_with fail
          go_ret
          exact ⟨rfl, Q9.out⟩
      · have e0 : Hid (setE (row 256) key a = 1) := hid (by unfold setE; rw [if_pos (by omega)])
        have s0 : Hid (setS (row 256) key a = row 256) := hid (by unfold setS; rw [e0.out]; rfl)
        go_wp2_with fail
        refine (HSS.out _ HX.out).mono ?_
        rintro x w1 ⟨rfl, vs1, h1⟩
        rw [s0.out] at h1
        rw [e0.out]
        have H1 := hid h1; clear h1
        go_wp2_with fail
        refine (lenX H1.out).mono ?_
        rintro x w3 ⟨rfl, h3⟩
        rw [hl256.out]
        have H3 := hid h3; clear h3
        go_wp2_with fail
        refine (KN.out _).mono ?_
        rintro x w9 ⟨rfl, o9⟩
        have Q9 := hid (H3.out.o.trans o9); clear o9
        go_wp2_with fail
        go_ret
        exact ⟨rfl, Q9.out⟩
end Go.Proofs.Ytnachendenodkaa.whl
