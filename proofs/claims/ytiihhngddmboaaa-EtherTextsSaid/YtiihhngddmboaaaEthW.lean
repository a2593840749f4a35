/-
  Chapter 4 (ether): any text is an address, or refused, in the document's words; the law, by a walk of each text. Conditions: none but those typed.
-/
import Derived.Test.YtiihhngddmboaaaEthV
import Derived.Test.YtiihhngddmboaaaEvP4
namespace Go.Proofs.Ytiihhngddmboaaa.eth
set_option linter.unusedVariables false
set_option linter.unusedSimpArgs false
open Go.ChangeShapes Go.WideShapes Go.ChangeAt Go.RowKit Go.IntWalk Go.Lib
theorem digit1 (w : World) (c : Int) (h : 0 ≤ c ∧ c ≤ 255) : Calls Try.prog 37 #[.int .u8 c] w fun x w' => x = .returned (.int .i64 (dig c)) ∧ w = w' := by
  by_cases h1 : 48 ≤ c ∧ c ≤ 57
  · have HD : Hid (dig c = c - 48) := hid (by unfold dig; rw [if_pos h1])
    obtain ⟨a1, a2⟩ := h1
    go_enter Try.func37, Try.ntmps37
    go_wp2
    go_ret
    exact ⟨rInt (by rw [HD.out]), rfl⟩
  · by_cases h2 : 97 ≤ c ∧ c ≤ 102
    · have HD : Hid (dig c = c - 87) := hid (by unfold dig; rw [if_neg h1, if_pos h2])
      obtain ⟨a1, a2⟩ := h2
      have b1 : ¬ c ≤ 57 := by omega
      have b2 : 48 ≤ c := by omega
      clear h1
      go_enter Try.func37, Try.ntmps37
      go_wp2
      go_ret
      exact ⟨rInt (by rw [HD.out]; omega), rfl⟩
    · by_cases h3 : 65 ≤ c ∧ c ≤ 70
      · have HD : Hid (dig c = c - 55) := hid (by unfold dig; rw [if_neg h1, if_neg h2, if_pos h3])
        obtain ⟨a1, a2⟩ := h3
        have b1 : ¬ c ≤ 57 := by omega
        have b2 : 48 ≤ c := by omega
        have b3 : ¬ 97 ≤ c := by omega
        clear h1 h2
        go_enter Try.func37, Try.ntmps37
        go_wp2
        go_ret
        exact ⟨rInt (by rw [HD.out]; omega), rfl⟩
      · have HD : Hid (dig c = -1) := hid (by unfold dig; rw [if_neg h1, if_neg h2, if_neg h3])
        go_enter Try.func37, Try.ntmps37
        go_wp2
        all_goals first | omega | skip
        all_goals go_ret
        all_goals exact ⟨rInt (by rw [HD.out]), rfl⟩
set_option maxHeartbeats 1000000 in
theorem rparseShort (w : World) (s : ByteArray) (h : s.size ≠ 17) : Calls Try.prog 22 #[.string s] w (PEnd w s) := by
  have hg : Hid (good s = false) := hid (by unfold good; simp [h])
  have hs : ¬ (s.size : Int) = 17 := by omega
  have OR : Hid (Ob ((w.alloc (.cells #[.int .u8 0, .int .u8 0, .int .u8 0, .int .u8 0, .int .u8 0, .int .u8 0] 23)).alloc (.cells #[.int .u8 0, .int .u8 0, .int .u8 0, .int .u8 0, .int .u8 0, .int .u8 0] 23)) w.heap.size 23 #[.int .u8 0, .int .u8 0, .int .u8 0, .int .u8 0, .int .u8 0, .int .u8 0]) := hid ((Ob.new _ _ _).alloc _)
  have OM : Hid (Ob ((w.alloc (.cells #[.int .u8 0, .int .u8 0, .int .u8 0, .int .u8 0, .int .u8 0, .int .u8 0] 23)).alloc (.cells #[.int .u8 0, .int .u8 0, .int .u8 0, .int .u8 0, .int .u8 0, .int .u8 0] 23)) (w.heap.size + 1) 23 #[.int .u8 0, .int .u8 0, .int .u8 0, .int .u8 0, .int .u8 0, .int .u8 0]) := hid (by simpa using Ob.new (w.alloc (.cells #[.int .u8 0, .int .u8 0, .int .u8 0, .int .u8 0, .int .u8 0, .int .u8 0] 23)) 23 #[.int .u8 0, .int .u8 0, .int .u8 0, .int .u8 0, .int .u8 0, .int .u8 0])
  have QB : Hid (Only [] w ((w.alloc (.cells #[.int .u8 0, .int .u8 0, .int .u8 0, .int .u8 0, .int .u8 0, .int .u8 0] 23)).alloc (.cells #[.int .u8 0, .int .u8 0, .int .u8 0, .int .u8 0, .int .u8 0, .int .u8 0] 23))) := hid (((Only.refl [] w).alloc _).alloc _)
  go_enter Try.func22, Try.ntmps22
  go_wp2_with (first
    | (refine wp_loadOb rfl 23 _ rfl (w.heap.size + 1) rfl _ 23 OM.out Try.underlying23 rfl (by kernel_rfl) ?_; try simp only [Act.put, List.setIfInBounds_toArray, List.set_cons_zero, List.set_cons_succ])
    | (refine wp_storeOb rfl 23 _ _ rfl _ _ rfl rfl _ _ OR.out rfl (by kernel_rfl) (by simp [Value.oneCell']) (fun W5 hW5 => ?_); try simp only [Act.put, List.setIfInBounds_toArray, List.set_cons_zero, List.set_cons_succ]; have OR5 := hid (OR.out.eq_all hW5 rfl); have QB5 := hid (QB.out.eq_all hW5 (Or.inr (by simp))); clear hW5))
  have r0 := OR5.out.cell 0; have r1 := OR5.out.cell 1; have r2 := OR5.out.cell 2; have r3 := OR5.out.cell 3; have r4 := OR5.out.cell 4; have r5 := OR5.out.cell 5
  exact bodyPost_ret (v := .tuple #[.agg #[.int .u8 0, .int .u8 0, .int .u8 0, .int .u8 0, .int .u8 0, .int .u8 0], .int .i64 3]) (by simp [results, Try.results22, go_sem, *]) rfl (PEnd.no hg.out QB5.out)
set_option maxRecDepth 100000 in
set_option maxHeartbeats 8000000 in
theorem rparse17 (w : World) (s : ByteArray) (hs17 : s.size = 17) : Calls Try.prog 22 #[.string s] w (PEnd w s) := by
  have hs : (s.size : Int) = 17 := by omega
  have hix : Hid (∀ (k : Nat), k < 17 → ∀ W : World, (Instr.index 9 (.string s) (.int .i64 (k : Int))).run Try.prog W = .ok (.int .u8 (ch s k)) W) := hid (fun k hk W => ixs s k (by omega) W)
  obtain ⟨d0, h⟩ : ∃ d, dig (ch s 0) = d := ⟨_, rfl⟩
  have H0 := hid h; clear h
  obtain ⟨d1, h⟩ : ∃ d, dig (ch s 1) = d := ⟨_, rfl⟩
  have H1 := hid h; clear h
  obtain ⟨d3, h⟩ : ∃ d, dig (ch s 3) = d := ⟨_, rfl⟩
  have H3 := hid h; clear h
  obtain ⟨d4, h⟩ : ∃ d, dig (ch s 4) = d := ⟨_, rfl⟩
  have H4 := hid h; clear h
  obtain ⟨d6, h⟩ : ∃ d, dig (ch s 6) = d := ⟨_, rfl⟩
  have H6 := hid h; clear h
  obtain ⟨d7, h⟩ : ∃ d, dig (ch s 7) = d := ⟨_, rfl⟩
  have H7 := hid h; clear h
  obtain ⟨d9, h⟩ : ∃ d, dig (ch s 9) = d := ⟨_, rfl⟩
  have H9 := hid h; clear h
  obtain ⟨d10, h⟩ : ∃ d, dig (ch s 10) = d := ⟨_, rfl⟩
  have H10 := hid h; clear h
  obtain ⟨d12, h⟩ : ∃ d, dig (ch s 12) = d := ⟨_, rfl⟩
  have H12 := hid h; clear h
  obtain ⟨d13, h⟩ : ∃ d, dig (ch s 13) = d := ⟨_, rfl⟩
  have H13 := hid h; clear h
  obtain ⟨d15, h⟩ : ∃ d, dig (ch s 15) = d := ⟨_, rfl⟩
  have H15 := hid h; clear h
  obtain ⟨d16, h⟩ : ∃ d, dig (ch s 16) = d := ⟨_, rfl⟩
  have H16 := hid h; clear h
  have OR0 : Hid (Ob ((w.alloc (.cells #[.int .u8 0, .int .u8 0, .int .u8 0, .int .u8 0, .int .u8 0, .int .u8 0] 23)).alloc (.cells #[.int .u8 0, .int .u8 0, .int .u8 0, .int .u8 0, .int .u8 0, .int .u8 0] 23)) w.heap.size 23 #[.int .u8 0, .int .u8 0, .int .u8 0, .int .u8 0, .int .u8 0, .int .u8 0]) := hid ((Ob.new _ _ _).alloc _)
  have OM0 : Hid (Ob ((w.alloc (.cells #[.int .u8 0, .int .u8 0, .int .u8 0, .int .u8 0, .int .u8 0, .int .u8 0] 23)).alloc (.cells #[.int .u8 0, .int .u8 0, .int .u8 0, .int .u8 0, .int .u8 0, .int .u8 0] 23)) (w.heap.size + 1) 23 #[.int .u8 0, .int .u8 0, .int .u8 0, .int .u8 0, .int .u8 0, .int .u8 0]) := hid (by simpa using Ob.new (w.alloc (.cells #[.int .u8 0, .int .u8 0, .int .u8 0, .int .u8 0, .int .u8 0, .int .u8 0] 23)) 23 #[.int .u8 0, .int .u8 0, .int .u8 0, .int .u8 0, .int .u8 0, .int .u8 0])
  have QB0 : Hid (Only [] w ((w.alloc (.cells #[.int .u8 0, .int .u8 0, .int .u8 0, .int .u8 0, .int .u8 0, .int .u8 0] 23)).alloc (.cells #[.int .u8 0, .int .u8 0, .int .u8 0, .int .u8 0, .int .u8 0, .int .u8 0] 23))) := hid (((Only.refl [] w).alloc _).alloc _)
  go_enter Try.func22, Try.ntmps22
  go_wp2
  generalize hW1 : ((w.alloc (.cells #[.int .u8 0, .int .u8 0, .int .u8 0, .int .u8 0, .int .u8 0, .int .u8 0] 23)).alloc (.cells #[.int .u8 0, .int .u8 0, .int .u8 0, .int .u8 0, .int .u8 0, .int .u8 0] 23)) = W1 at *
  go_loopw [5] (fun i wr => ((i = .int .i64 0 ∧ Hid (∀ j, j < 0 → okB s j = true) ∧ Hid (Ob wr (w.heap.size + 1) 23 #[.int .u8 0, .int .u8 0, .int .u8 0, .int .u8 0, .int .u8 0, .int .u8 0])) ∨ (i = .int .i64 1 ∧ Hid (∀ j, j < 3 → okB s j = true) ∧ Hid (Ob wr (w.heap.size + 1) 23 #[.int .u8 (d0 * 16 + d1), .int .u8 0, .int .u8 0, .int .u8 0, .int .u8 0, .int .u8 0])) ∨ (i = .int .i64 2 ∧ Hid (∀ j, j < 6 → okB s j = true) ∧ Hid (Ob wr (w.heap.size + 1) 23 #[.int .u8 (d0 * 16 + d1), .int .u8 (d3 * 16 + d4), .int .u8 0, .int .u8 0, .int .u8 0, .int .u8 0])) ∨ (i = .int .i64 3 ∧ Hid (∀ j, j < 9 → okB s j = true) ∧ Hid (Ob wr (w.heap.size + 1) 23 #[.int .u8 (d0 * 16 + d1), .int .u8 (d3 * 16 + d4), .int .u8 (d6 * 16 + d7), .int .u8 0, .int .u8 0, .int .u8 0])) ∨ (i = .int .i64 4 ∧ Hid (∀ j, j < 12 → okB s j = true) ∧ Hid (Ob wr (w.heap.size + 1) 23 #[.int .u8 (d0 * 16 + d1), .int .u8 (d3 * 16 + d4), .int .u8 (d6 * 16 + d7), .int .u8 (d9 * 16 + d10), .int .u8 0, .int .u8 0])) ∨ (i = .int .i64 5 ∧ Hid (∀ j, j < 15 → okB s j = true) ∧ Hid (Ob wr (w.heap.size + 1) 23 #[.int .u8 (d0 * 16 + d1), .int .u8 (d3 * 16 + d4), .int .u8 (d6 * 16 + d7), .int .u8 (d9 * 16 + d10), .int .u8 (d12 * 16 + d13), .int .u8 0])) ∨ (i = .int .i64 6 ∧ Hid (∀ j, j < 17 → okB s j = true) ∧ Hid (Ob wr (w.heap.size + 1) 23 #[.int .u8 (d0 * 16 + d1), .int .u8 (d3 * 16 + d4), .int .u8 (d6 * 16 + d7), .int .u8 (d9 * 16 + d10), .int .u8 (d12 * 16 + d13), .int .u8 (d15 * 16 + d16)]))) ∧ Hid (Only [w.heap.size + 1] W1 wr)) (fun i _ => 6 - (RowKit.intOf i).toNat)
  case atStart => exact ⟨.inl ⟨rfl, hid (fun j hj => absurd hj (by omega)), OM0⟩, hid (Only.refl _ _)⟩
  case round =>
    obtain ⟨hh, HB⟩ := hrel
    have OR := hid (OR0.out.only HB.out (by simp)); have QB := hid (QB0.out.fresh HB.out (by simp))
    rcases hh with hh | hh | hh | hh | hh | hh | hh
    · skip
      obtain ⟨rfl, HO, OM⟩ := hh
      have x0 : ∀ W, (Instr.index 9 (.string s) (.int .i64 0)).run Try.prog W = .ok (.int .u8 (ch s 0)) W := fun W => hix.out 0 (by omega) W
      have x1 : ∀ W, (Instr.index 9 (.string s) (.int .i64 1)).run Try.prog W = .ok (.int .u8 (ch s 1)) W := fun W => hix.out 1 (by omega) W
      have x2 : ∀ W, (Instr.index 9 (.string s) (.int .i64 2)).run Try.prog W = .ok (.int .u8 (ch s 2)) W := fun W => hix.out 2 (by omega) W
      have ca := ch_bd s 0; have cb := ch_bd s 1
      go_wp2_with fail
      refine (digit1 _ (ch s 0) ca).mono ?_
      rintro x w2 ⟨rfl, hw⟩
      subst hw
      go_wp2_with fail
      refine (digit1 _ (ch s 1) cb).mono ?_
      rintro x w2 ⟨rfl, hw⟩
      subst hw
      have ka := dig_bd (ch s 0); have kb := dig_bd (ch s 1)
      have KA : Hid (okB s 0 = decide (0 ≤ dig (ch s 0))) := hid (by unfold okB; rw [if_neg (by decide)])
      have KB : Hid (okB s 1 = decide (0 ≤ dig (ch s 1))) := hid (by unfold okB; rw [if_neg (by decide)])
      rw [H0.out] at ka KA; rw [H1.out] at kb KB
      rw [H0.out, H1.out]
      clear ca cb
      by_cases ha : 0 ≤ d0
      · by_cases hb : 0 ≤ d1
        · by_cases hc : ch s 2 = 58
          · have KC : Hid (okB s 2 = true) := hid (by unfold okB; rw [if_pos (by decide)]; simpa using hc)
            have HN := hid (okext (okext (okext HO.out (by rw [KA.out]; simpa using ha)) (by rw [KB.out]; simpa using hb)) KC.out)
            rw [hc] at x2
            clear hc
            have m0 := OM.out.cell 0; have n0 := OM.out.frozen 0
            have hw8 : IntKind.u8.wrap (16 * d0 + d1) = d0 * 16 + d1 := by rw [IntKind.wrap_u8]; omega
            have HW8 := hid hw8; clear hw8
            have hmm : 16 * d0 + d1 = d0 * 16 + d1 := by omega
            have OM2 : Hid (Ob (wr.setCell ⟨w.heap.size + 1, 0, none⟩ (.int .u8 (d0 * 16 + d1))) (w.heap.size + 1) 23 #[.int .u8 (d0 * 16 + d1), .int .u8 0, .int .u8 0, .int .u8 0, .int .u8 0, .int .u8 0]) := hid (OM.out.set 0 (.int .u8 (d0 * 16 + d1)))
            have HB2 := hid (HB.out.setCell (p := ⟨w.heap.size + 1, 0, none⟩) (Or.inl (by simp)) (.int .u8 (d0 * 16 + d1)))
            have hs1 : (16 * d0 + d1) % 256 = d0 * 16 + d1 := by omega
            go_wp2
            go_roundw
            case rel => exact ⟨.inr (.inl ⟨rfl, HN, OM2⟩), HB2⟩
            case measure => simp [RowKit.intOf]
          · have HN := hid (bad_at s 2 (by omega) (by unfold okB; rw [if_pos (by decide)]; simpa using hc))
            have hc2 : (ch s 2 == 58) = false := by simpa using hc
            have hc3 : (ch s 2 != 58) = true := by simpa using hc
            clear hc
            go_wp2_with (refine wp_storeOb rfl 23 _ _ rfl _ _ rfl rfl _ _ OR.out rfl (by kernel_rfl) (by simp [Value.oneCell']) (fun W5 hW5 => ?_); try simp only [Act.put, List.setIfInBounds_toArray, List.set_cons_zero, List.set_cons_succ]; have OR5 := hid (OR.out.eq_all hW5 rfl); have QB5 := hid (QB.out.eq_all hW5 (Or.inr (by simp))); clear hW5)
            have r0 := OR5.out.cell 0; have r1 := OR5.out.cell 1; have r2 := OR5.out.cell 2; have r3 := OR5.out.cell 3; have r4 := OR5.out.cell 4; have r5 := OR5.out.cell 5
            exact bodyPost_ret (v := .tuple #[.agg #[.int .u8 0, .int .u8 0, .int .u8 0, .int .u8 0, .int .u8 0, .int .u8 0], .int .i64 3]) (by simp [results, Try.results22, go_sem, *]) rfl (PEnd.no HN.out QB5.out)
        · have HN := hid (bad_at s 1 (by omega) (by rw [KB.out]; simpa using hb))
          go_wp2_with (refine wp_storeOb rfl 23 _ _ rfl _ _ rfl rfl _ _ OR.out rfl (by kernel_rfl) (by simp [Value.oneCell']) (fun W5 hW5 => ?_); try simp only [Act.put, List.setIfInBounds_toArray, List.set_cons_zero, List.set_cons_succ]; have OR5 := hid (OR.out.eq_all hW5 rfl); have QB5 := hid (QB.out.eq_all hW5 (Or.inr (by simp))); clear hW5)
          have r0 := OR5.out.cell 0; have r1 := OR5.out.cell 1; have r2 := OR5.out.cell 2; have r3 := OR5.out.cell 3; have r4 := OR5.out.cell 4; have r5 := OR5.out.cell 5
          exact bodyPost_ret (v := .tuple #[.agg #[.int .u8 0, .int .u8 0, .int .u8 0, .int .u8 0, .int .u8 0, .int .u8 0], .int .i64 3]) (by simp [results, Try.results22, go_sem, *]) rfl (PEnd.no HN.out QB5.out)
      · have HN := hid (bad_at s 0 (by omega) (by rw [KA.out]; simpa using ha))
        go_wp2_with (refine wp_storeOb rfl 23 _ _ rfl _ _ rfl rfl _ _ OR.out rfl (by kernel_rfl) (by simp [Value.oneCell']) (fun W5 hW5 => ?_); try simp only [Act.put, List.setIfInBounds_toArray, List.set_cons_zero, List.set_cons_succ]; have OR5 := hid (OR.out.eq_all hW5 rfl); have QB5 := hid (QB.out.eq_all hW5 (Or.inr (by simp))); clear hW5)
        have r0 := OR5.out.cell 0; have r1 := OR5.out.cell 1; have r2 := OR5.out.cell 2; have r3 := OR5.out.cell 3; have r4 := OR5.out.cell 4; have r5 := OR5.out.cell 5
        exact bodyPost_ret (v := .tuple #[.agg #[.int .u8 0, .int .u8 0, .int .u8 0, .int .u8 0, .int .u8 0, .int .u8 0], .int .i64 3]) (by simp [results, Try.results22, go_sem, *]) rfl (PEnd.no HN.out QB5.out)
    · skip
      obtain ⟨rfl, HO, OM⟩ := hh
      have x3 : ∀ W, (Instr.index 9 (.string s) (.int .i64 3)).run Try.prog W = .ok (.int .u8 (ch s 3)) W := fun W => hix.out 3 (by omega) W
      have x4 : ∀ W, (Instr.index 9 (.string s) (.int .i64 4)).run Try.prog W = .ok (.int .u8 (ch s 4)) W := fun W => hix.out 4 (by omega) W
      have x5 : ∀ W, (Instr.index 9 (.string s) (.int .i64 5)).run Try.prog W = .ok (.int .u8 (ch s 5)) W := fun W => hix.out 5 (by omega) W
      have ca := ch_bd s 3; have cb := ch_bd s 4
      go_wp2_with fail
      refine (digit1 _ (ch s 3) ca).mono ?_
      rintro x w2 ⟨rfl, hw⟩
      subst hw
      go_wp2_with fail
      refine (digit1 _ (ch s 4) cb).mono ?_
      rintro x w2 ⟨rfl, hw⟩
      subst hw
      have ka := dig_bd (ch s 3); have kb := dig_bd (ch s 4)
      have KA : Hid (okB s 3 = decide (0 ≤ dig (ch s 3))) := hid (by unfold okB; rw [if_neg (by decide)])
      have KB : Hid (okB s 4 = decide (0 ≤ dig (ch s 4))) := hid (by unfold okB; rw [if_neg (by decide)])
      rw [H3.out] at ka KA; rw [H4.out] at kb KB
      rw [H3.out, H4.out]
      clear ca cb
      by_cases ha : 0 ≤ d3
      · by_cases hb : 0 ≤ d4
        · by_cases hc : ch s 5 = 58
          · have KC : Hid (okB s 5 = true) := hid (by unfold okB; rw [if_pos (by decide)]; simpa using hc)
            have HN := hid (okext (okext (okext HO.out (by rw [KA.out]; simpa using ha)) (by rw [KB.out]; simpa using hb)) KC.out)
            rw [hc] at x5
            clear hc
            have m1 := OM.out.cell 1; have n1 := OM.out.frozen 1
            have hw8 : IntKind.u8.wrap (16 * d3 + d4) = d3 * 16 + d4 := by rw [IntKind.wrap_u8]; omega
            have HW8 := hid hw8; clear hw8
            have hmm : 16 * d3 + d4 = d3 * 16 + d4 := by omega
            have OM2 : Hid (Ob (wr.setCell ⟨w.heap.size + 1, 1, none⟩ (.int .u8 (d3 * 16 + d4))) (w.heap.size + 1) 23 #[.int .u8 (d0 * 16 + d1), .int .u8 (d3 * 16 + d4), .int .u8 0, .int .u8 0, .int .u8 0, .int .u8 0]) := hid (OM.out.set 1 (.int .u8 (d3 * 16 + d4)))
            have HB2 := hid (HB.out.setCell (p := ⟨w.heap.size + 1, 1, none⟩) (Or.inl (by simp)) (.int .u8 (d3 * 16 + d4)))
            have hs1 : (16 * d3 + d4) % 256 = d3 * 16 + d4 := by omega
            go_wp2
            go_roundw
            case rel => exact ⟨.inr (.inr (.inl ⟨rfl, HN, OM2⟩)), HB2⟩
            case measure => simp [RowKit.intOf]
          · have HN := hid (bad_at s 5 (by omega) (by unfold okB; rw [if_pos (by decide)]; simpa using hc))
            have hc2 : (ch s 5 == 58) = false := by simpa using hc
            have hc3 : (ch s 5 != 58) = true := by simpa using hc
            clear hc
            go_wp2_with (refine wp_storeOb rfl 23 _ _ rfl _ _ rfl rfl _ _ OR.out rfl (by kernel_rfl) (by simp [Value.oneCell']) (fun W5 hW5 => ?_); try simp only [Act.put, List.setIfInBounds_toArray, List.set_cons_zero, List.set_cons_succ]; have OR5 := hid (OR.out.eq_all hW5 rfl); have QB5 := hid (QB.out.eq_all hW5 (Or.inr (by simp))); clear hW5)
            have r0 := OR5.out.cell 0; have r1 := OR5.out.cell 1; have r2 := OR5.out.cell 2; have r3 := OR5.out.cell 3; have r4 := OR5.out.cell 4; have r5 := OR5.out.cell 5
            exact bodyPost_ret (v := .tuple #[.agg #[.int .u8 0, .int .u8 0, .int .u8 0, .int .u8 0, .int .u8 0, .int .u8 0], .int .i64 3]) (by simp [results, Try.results22, go_sem, *]) rfl (PEnd.no HN.out QB5.out)
        · have HN := hid (bad_at s 4 (by omega) (by rw [KB.out]; simpa using hb))
          go_wp2_with (refine wp_storeOb rfl 23 _ _ rfl _ _ rfl rfl _ _ OR.out rfl (by kernel_rfl) (by simp [Value.oneCell']) (fun W5 hW5 => ?_); try simp only [Act.put, List.setIfInBounds_toArray, List.set_cons_zero, List.set_cons_succ]; have OR5 := hid (OR.out.eq_all hW5 rfl); have QB5 := hid (QB.out.eq_all hW5 (Or.inr (by simp))); clear hW5)
          have r0 := OR5.out.cell 0; have r1 := OR5.out.cell 1; have r2 := OR5.out.cell 2; have r3 := OR5.out.cell 3; have r4 := OR5.out.cell 4; have r5 := OR5.out.cell 5
          exact bodyPost_ret (v := .tuple #[.agg #[.int .u8 0, .int .u8 0, .int .u8 0, .int .u8 0, .int .u8 0, .int .u8 0], .int .i64 3]) (by simp [results, Try.results22, go_sem, *]) rfl (PEnd.no HN.out QB5.out)
      · have HN := hid (bad_at s 3 (by omega) (by rw [KA.out]; simpa using ha))
        go_wp2_with (refine wp_storeOb rfl 23 _ _ rfl _ _ rfl rfl _ _ OR.out rfl (by kernel_rfl) (by simp [Value.oneCell']) (fun W5 hW5 => ?_); try simp only [Act.put, List.setIfInBounds_toArray, List.set_cons_zero, List.set_cons_succ]; have OR5 := hid (OR.out.eq_all hW5 rfl); have QB5 := hid (QB.out.eq_all hW5 (Or.inr (by simp))); clear hW5)
        have r0 := OR5.out.cell 0; have r1 := OR5.out.cell 1; have r2 := OR5.out.cell 2; have r3 := OR5.out.cell 3; have r4 := OR5.out.cell 4; have r5 := OR5.out.cell 5
        exact bodyPost_ret (v := .tuple #[.agg #[.int .u8 0, .int .u8 0, .int .u8 0, .int .u8 0, .int .u8 0, .int .u8 0], .int .i64 3]) (by simp [results, Try.results22, go_sem, *]) rfl (PEnd.no HN.out QB5.out)
    · skip
      obtain ⟨rfl, HO, OM⟩ := hh
      have x6 : ∀ W, (Instr.index 9 (.string s) (.int .i64 6)).run Try.prog W = .ok (.int .u8 (ch s 6)) W := fun W => hix.out 6 (by omega) W
      have x7 : ∀ W, (Instr.index 9 (.string s) (.int .i64 7)).run Try.prog W = .ok (.int .u8 (ch s 7)) W := fun W => hix.out 7 (by omega) W
      have x8 : ∀ W, (Instr.index 9 (.string s) (.int .i64 8)).run Try.prog W = .ok (.int .u8 (ch s 8)) W := fun W => hix.out 8 (by omega) W
      have ca := ch_bd s 6; have cb := ch_bd s 7
      go_wp2_with fail
      refine (digit1 _ (ch s 6) ca).mono ?_
      rintro x w2 ⟨rfl, hw⟩
      subst hw
      go_wp2_with fail
      refine (digit1 _ (ch s 7) cb).mono ?_
      rintro x w2 ⟨rfl, hw⟩
      subst hw
      have ka := dig_bd (ch s 6); have kb := dig_bd (ch s 7)
      have KA : Hid (okB s 6 = decide (0 ≤ dig (ch s 6))) := hid (by unfold okB; rw [if_neg (by decide)])
      have KB : Hid (okB s 7 = decide (0 ≤ dig (ch s 7))) := hid (by unfold okB; rw [if_neg (by decide)])
      rw [H6.out] at ka KA; rw [H7.out] at kb KB
      rw [H6.out, H7.out]
      clear ca cb
      by_cases ha : 0 ≤ d6
      · by_cases hb : 0 ≤ d7
        · by_cases hc : ch s 8 = 58
          · have KC : Hid (okB s 8 = true) := hid (by unfold okB; rw [if_pos (by decide)]; simpa using hc)
            have HN := hid (okext (okext (okext HO.out (by rw [KA.out]; simpa using ha)) (by rw [KB.out]; simpa using hb)) KC.out)
            rw [hc] at x8
            clear hc
            have m2 := OM.out.cell 2; have n2 := OM.out.frozen 2
            have hw8 : IntKind.u8.wrap (16 * d6 + d7) = d6 * 16 + d7 := by rw [IntKind.wrap_u8]; omega
            have HW8 := hid hw8; clear hw8
            have hmm : 16 * d6 + d7 = d6 * 16 + d7 := by omega
            have OM2 : Hid (Ob (wr.setCell ⟨w.heap.size + 1, 2, none⟩ (.int .u8 (d6 * 16 + d7))) (w.heap.size + 1) 23 #[.int .u8 (d0 * 16 + d1), .int .u8 (d3 * 16 + d4), .int .u8 (d6 * 16 + d7), .int .u8 0, .int .u8 0, .int .u8 0]) := hid (OM.out.set 2 (.int .u8 (d6 * 16 + d7)))
            have HB2 := hid (HB.out.setCell (p := ⟨w.heap.size + 1, 2, none⟩) (Or.inl (by simp)) (.int .u8 (d6 * 16 + d7)))
            have hs1 : (16 * d6 + d7) % 256 = d6 * 16 + d7 := by omega
            go_wp2
            go_roundw
            case rel => exact ⟨.inr (.inr (.inr (.inl ⟨rfl, HN, OM2⟩))), HB2⟩
            case measure => simp [RowKit.intOf]
          · have HN := hid (bad_at s 8 (by omega) (by unfold okB; rw [if_pos (by decide)]; simpa using hc))
            have hc2 : (ch s 8 == 58) = false := by simpa using hc
            have hc3 : (ch s 8 != 58) = true := by simpa using hc
            clear hc
            go_wp2_with (refine wp_storeOb rfl 23 _ _ rfl _ _ rfl rfl _ _ OR.out rfl (by kernel_rfl) (by simp [Value.oneCell']) (fun W5 hW5 => ?_); try simp only [Act.put, List.setIfInBounds_toArray, List.set_cons_zero, List.set_cons_succ]; have OR5 := hid (OR.out.eq_all hW5 rfl); have QB5 := hid (QB.out.eq_all hW5 (Or.inr (by simp))); clear hW5)
            have r0 := OR5.out.cell 0; have r1 := OR5.out.cell 1; have r2 := OR5.out.cell 2; have r3 := OR5.out.cell 3; have r4 := OR5.out.cell 4; have r5 := OR5.out.cell 5
            exact bodyPost_ret (v := .tuple #[.agg #[.int .u8 0, .int .u8 0, .int .u8 0, .int .u8 0, .int .u8 0, .int .u8 0], .int .i64 3]) (by simp [results, Try.results22, go_sem, *]) rfl (PEnd.no HN.out QB5.out)
        · have HN := hid (bad_at s 7 (by omega) (by rw [KB.out]; simpa using hb))
          go_wp2_with (refine wp_storeOb rfl 23 _ _ rfl _ _ rfl rfl _ _ OR.out rfl (by kernel_rfl) (by simp [Value.oneCell']) (fun W5 hW5 => ?_); try simp only [Act.put, List.setIfInBounds_toArray, List.set_cons_zero, List.set_cons_succ]; have OR5 := hid (OR.out.eq_all hW5 rfl); have QB5 := hid (QB.out.eq_all hW5 (Or.inr (by simp))); clear hW5)
          have r0 := OR5.out.cell 0; have r1 := OR5.out.cell 1; have r2 := OR5.out.cell 2; have r3 := OR5.out.cell 3; have r4 := OR5.out.cell 4; have r5 := OR5.out.cell 5
          exact bodyPost_ret (v := .tuple #[.agg #[.int .u8 0, .int .u8 0, .int .u8 0, .int .u8 0, .int .u8 0, .int .u8 0], .int .i64 3]) (by simp [results, Try.results22, go_sem, *]) rfl (PEnd.no HN.out QB5.out)
      · have HN := hid (bad_at s 6 (by omega) (by rw [KA.out]; simpa using ha))
        go_wp2_with (refine wp_storeOb rfl 23 _ _ rfl _ _ rfl rfl _ _ OR.out rfl (by kernel_rfl) (by simp [Value.oneCell']) (fun W5 hW5 => ?_); try simp only [Act.put, List.setIfInBounds_toArray, List.set_cons_zero, List.set_cons_succ]; have OR5 := hid (OR.out.eq_all hW5 rfl); have QB5 := hid (QB.out.eq_all hW5 (Or.inr (by simp))); clear hW5)
        have r0 := OR5.out.cell 0; have r1 := OR5.out.cell 1; have r2 := OR5.out.cell 2; have r3 := OR5.out.cell 3; have r4 := OR5.out.cell 4; have r5 := OR5.out.cell 5
        exact bodyPost_ret (v := .tuple #[.agg #[.int .u8 0, .int .u8 0, .int .u8 0, .int .u8 0, .int .u8 0, .int .u8 0], .int .i64 3]) (by simp [results, Try.results22, go_sem, *]) rfl (PEnd.no HN.out QB5.out)
    · skip
      obtain ⟨rfl, HO, OM⟩ := hh
      have x9 : ∀ W, (Instr.index 9 (.string s) (.int .i64 9)).run Try.prog W = .ok (.int .u8 (ch s 9)) W := fun W => hix.out 9 (by omega) W
      have x10 : ∀ W, (Instr.index 9 (.string s) (.int .i64 10)).run Try.prog W = .ok (.int .u8 (ch s 10)) W := fun W => hix.out 10 (by omega) W
      have x11 : ∀ W, (Instr.index 9 (.string s) (.int .i64 11)).run Try.prog W = .ok (.int .u8 (ch s 11)) W := fun W => hix.out 11 (by omega) W
      have ca := ch_bd s 9; have cb := ch_bd s 10
      go_wp2_with fail
      refine (digit1 _ (ch s 9) ca).mono ?_
      rintro x w2 ⟨rfl, hw⟩
      subst hw
      go_wp2_with fail
      refine (digit1 _ (ch s 10) cb).mono ?_
      rintro x w2 ⟨rfl, hw⟩
      subst hw
      have ka := dig_bd (ch s 9); have kb := dig_bd (ch s 10)
      have KA : Hid (okB s 9 = decide (0 ≤ dig (ch s 9))) := hid (by unfold okB; rw [if_neg (by decide)])
      have KB : Hid (okB s 10 = decide (0 ≤ dig (ch s 10))) := hid (by unfold okB; rw [if_neg (by decide)])
      rw [H9.out] at ka KA; rw [H10.out] at kb KB
      rw [H9.out, H10.out]
      clear ca cb
      by_cases ha : 0 ≤ d9
      · by_cases hb : 0 ≤ d10
        · by_cases hc : ch s 11 = 58
          · have KC : Hid (okB s 11 = true) := hid (by unfold okB; rw [if_pos (by decide)]; simpa using hc)
            have HN := hid (okext (okext (okext HO.out (by rw [KA.out]; simpa using ha)) (by rw [KB.out]; simpa using hb)) KC.out)
            rw [hc] at x11
            clear hc
            have m3 := OM.out.cell 3; have n3 := OM.out.frozen 3
            have hw8 : IntKind.u8.wrap (16 * d9 + d10) = d9 * 16 + d10 := by rw [IntKind.wrap_u8]; omega
            have HW8 := hid hw8; clear hw8
            have hmm : 16 * d9 + d10 = d9 * 16 + d10 := by omega
            have OM2 : Hid (Ob (wr.setCell ⟨w.heap.size + 1, 3, none⟩ (.int .u8 (d9 * 16 + d10))) (w.heap.size + 1) 23 #[.int .u8 (d0 * 16 + d1), .int .u8 (d3 * 16 + d4), .int .u8 (d6 * 16 + d7), .int .u8 (d9 * 16 + d10), .int .u8 0, .int .u8 0]) := hid (OM.out.set 3 (.int .u8 (d9 * 16 + d10)))
            have HB2 := hid (HB.out.setCell (p := ⟨w.heap.size + 1, 3, none⟩) (Or.inl (by simp)) (.int .u8 (d9 * 16 + d10)))
            have hs1 : (16 * d9 + d10) % 256 = d9 * 16 + d10 := by omega
            go_wp2
            go_roundw
            case rel => exact ⟨.inr (.inr (.inr (.inr (.inl ⟨rfl, HN, OM2⟩)))), HB2⟩
            case measure => simp [RowKit.intOf]
          · have HN := hid (bad_at s 11 (by omega) (by unfold okB; rw [if_pos (by decide)]; simpa using hc))
            have hc2 : (ch s 11 == 58) = false := by simpa using hc
            have hc3 : (ch s 11 != 58) = true := by simpa using hc
            clear hc
            go_wp2_with (refine wp_storeOb rfl 23 _ _ rfl _ _ rfl rfl _ _ OR.out rfl (by kernel_rfl) (by simp [Value.oneCell']) (fun W5 hW5 => ?_); try simp only [Act.put, List.setIfInBounds_toArray, List.set_cons_zero, List.set_cons_succ]; have OR5 := hid (OR.out.eq_all hW5 rfl); have QB5 := hid (QB.out.eq_all hW5 (Or.inr (by simp))); clear hW5)
            have r0 := OR5.out.cell 0; have r1 := OR5.out.cell 1; have r2 := OR5.out.cell 2; have r3 := OR5.out.cell 3; have r4 := OR5.out.cell 4; have r5 := OR5.out.cell 5
            exact bodyPost_ret (v := .tuple #[.agg #[.int .u8 0, .int .u8 0, .int .u8 0, .int .u8 0, .int .u8 0, .int .u8 0], .int .i64 3]) (by simp [results, Try.results22, go_sem, *]) rfl (PEnd.no HN.out QB5.out)
        · have HN := hid (bad_at s 10 (by omega) (by rw [KB.out]; simpa using hb))
          go_wp2_with (refine wp_storeOb rfl 23 _ _ rfl _ _ rfl rfl _ _ OR.out rfl (by kernel_rfl) (by simp [Value.oneCell']) (fun W5 hW5 => ?_); try simp only [Act.put, List.setIfInBounds_toArray, List.set_cons_zero, List.set_cons_succ]; have OR5 := hid (OR.out.eq_all hW5 rfl); have QB5 := hid (QB.out.eq_all hW5 (Or.inr (by simp))); clear hW5)
          have r0 := OR5.out.cell 0; have r1 := OR5.out.cell 1; have r2 := OR5.out.cell 2; have r3 := OR5.out.cell 3; have r4 := OR5.out.cell 4; have r5 := OR5.out.cell 5
          exact bodyPost_ret (v := .tuple #[.agg #[.int .u8 0, .int .u8 0, .int .u8 0, .int .u8 0, .int .u8 0, .int .u8 0], .int .i64 3]) (by simp [results, Try.results22, go_sem, *]) rfl (PEnd.no HN.out QB5.out)
      · have HN := hid (bad_at s 9 (by omega) (by rw [KA.out]; simpa using ha))
        go_wp2_with (refine wp_storeOb rfl 23 _ _ rfl _ _ rfl rfl _ _ OR.out rfl (by kernel_rfl) (by simp [Value.oneCell']) (fun W5 hW5 => ?_); try simp only [Act.put, List.setIfInBounds_toArray, List.set_cons_zero, List.set_cons_succ]; have OR5 := hid (OR.out.eq_all hW5 rfl); have QB5 := hid (QB.out.eq_all hW5 (Or.inr (by simp))); clear hW5)
        have r0 := OR5.out.cell 0; have r1 := OR5.out.cell 1; have r2 := OR5.out.cell 2; have r3 := OR5.out.cell 3; have r4 := OR5.out.cell 4; have r5 := OR5.out.cell 5
        exact bodyPost_ret (v := .tuple #[.agg #[.int .u8 0, .int .u8 0, .int .u8 0, .int .u8 0, .int .u8 0, .int .u8 0], .int .i64 3]) (by simp [results, Try.results22, go_sem, *]) rfl (PEnd.no HN.out QB5.out)
    · skip
      obtain ⟨rfl, HO, OM⟩ := hh
      have x12 : ∀ W, (Instr.index 9 (.string s) (.int .i64 12)).run Try.prog W = .ok (.int .u8 (ch s 12)) W := fun W => hix.out 12 (by omega) W
      have x13 : ∀ W, (Instr.index 9 (.string s) (.int .i64 13)).run Try.prog W = .ok (.int .u8 (ch s 13)) W := fun W => hix.out 13 (by omega) W
      have x14 : ∀ W, (Instr.index 9 (.string s) (.int .i64 14)).run Try.prog W = .ok (.int .u8 (ch s 14)) W := fun W => hix.out 14 (by omega) W
      have ca := ch_bd s 12; have cb := ch_bd s 13
      go_wp2_with fail
      refine (digit1 _ (ch s 12) ca).mono ?_
      rintro x w2 ⟨rfl, hw⟩
      subst hw
      go_wp2_with fail
      refine (digit1 _ (ch s 13) cb).mono ?_
      rintro x w2 ⟨rfl, hw⟩
      subst hw
      have ka := dig_bd (ch s 12); have kb := dig_bd (ch s 13)
      have KA : Hid (okB s 12 = decide (0 ≤ dig (ch s 12))) := hid (by unfold okB; rw [if_neg (by decide)])
      have KB : Hid (okB s 13 = decide (0 ≤ dig (ch s 13))) := hid (by unfold okB; rw [if_neg (by decide)])
      rw [H12.out] at ka KA; rw [H13.out] at kb KB
      rw [H12.out, H13.out]
      clear ca cb
      by_cases ha : 0 ≤ d12
      · by_cases hb : 0 ≤ d13
        · by_cases hc : ch s 14 = 58
          · have KC : Hid (okB s 14 = true) := hid (by unfold okB; rw [if_pos (by decide)]; simpa using hc)
            have HN := hid (okext (okext (okext HO.out (by rw [KA.out]; simpa using ha)) (by rw [KB.out]; simpa using hb)) KC.out)
            rw [hc] at x14
            clear hc
            have m4 := OM.out.cell 4; have n4 := OM.out.frozen 4
            have hw8 : IntKind.u8.wrap (16 * d12 + d13) = d12 * 16 + d13 := by rw [IntKind.wrap_u8]; omega
            have HW8 := hid hw8; clear hw8
            have hmm : 16 * d12 + d13 = d12 * 16 + d13 := by omega
            have OM2 : Hid (Ob (wr.setCell ⟨w.heap.size + 1, 4, none⟩ (.int .u8 (d12 * 16 + d13))) (w.heap.size + 1) 23 #[.int .u8 (d0 * 16 + d1), .int .u8 (d3 * 16 + d4), .int .u8 (d6 * 16 + d7), .int .u8 (d9 * 16 + d10), .int .u8 (d12 * 16 + d13), .int .u8 0]) := hid (OM.out.set 4 (.int .u8 (d12 * 16 + d13)))
            have HB2 := hid (HB.out.setCell (p := ⟨w.heap.size + 1, 4, none⟩) (Or.inl (by simp)) (.int .u8 (d12 * 16 + d13)))
            have hs1 : (16 * d12 + d13) % 256 = d12 * 16 + d13 := by omega
            go_wp2
            go_roundw
            case rel => exact ⟨.inr (.inr (.inr (.inr (.inr (.inl ⟨rfl, HN, OM2⟩))))), HB2⟩
            case measure => simp [RowKit.intOf]
          · have HN := hid (bad_at s 14 (by omega) (by unfold okB; rw [if_pos (by decide)]; simpa using hc))
            have hc2 : (ch s 14 == 58) = false := by simpa using hc
            have hc3 : (ch s 14 != 58) = true := by simpa using hc
            clear hc
            go_wp2_with (refine wp_storeOb rfl 23 _ _ rfl _ _ rfl rfl _ _ OR.out rfl (by kernel_rfl) (by simp [Value.oneCell']) (fun W5 hW5 => ?_); try simp only [Act.put, List.setIfInBounds_toArray, List.set_cons_zero, List.set_cons_succ]; have OR5 := hid (OR.out.eq_all hW5 rfl); have QB5 := hid (QB.out.eq_all hW5 (Or.inr (by simp))); clear hW5)
            have r0 := OR5.out.cell 0; have r1 := OR5.out.cell 1; have r2 := OR5.out.cell 2; have r3 := OR5.out.cell 3; have r4 := OR5.out.cell 4; have r5 := OR5.out.cell 5
            exact bodyPost_ret (v := .tuple #[.agg #[.int .u8 0, .int .u8 0, .int .u8 0, .int .u8 0, .int .u8 0, .int .u8 0], .int .i64 3]) (by simp [results, Try.results22, go_sem, *]) rfl (PEnd.no HN.out QB5.out)
        · have HN := hid (bad_at s 13 (by omega) (by rw [KB.out]; simpa using hb))
          go_wp2_with (refine wp_storeOb rfl 23 _ _ rfl _ _ rfl rfl _ _ OR.out rfl (by kernel_rfl) (by simp [Value.oneCell']) (fun W5 hW5 => ?_); try simp only [Act.put, List.setIfInBounds_toArray, List.set_cons_zero, List.set_cons_succ]; have OR5 := hid (OR.out.eq_all hW5 rfl); have QB5 := hid (QB.out.eq_all hW5 (Or.inr (by simp))); clear hW5)
          have r0 := OR5.out.cell 0; have r1 := OR5.out.cell 1; have r2 := OR5.out.cell 2; have r3 := OR5.out.cell 3; have r4 := OR5.out.cell 4; have r5 := OR5.out.cell 5
          exact bodyPost_ret (v := .tuple #[.agg #[.int .u8 0, .int .u8 0, .int .u8 0, .int .u8 0, .int .u8 0, .int .u8 0], .int .i64 3]) (by simp [results, Try.results22, go_sem, *]) rfl (PEnd.no HN.out QB5.out)
      · have HN := hid (bad_at s 12 (by omega) (by rw [KA.out]; simpa using ha))
        go_wp2_with (refine wp_storeOb rfl 23 _ _ rfl _ _ rfl rfl _ _ OR.out rfl (by kernel_rfl) (by simp [Value.oneCell']) (fun W5 hW5 => ?_); try simp only [Act.put, List.setIfInBounds_toArray, List.set_cons_zero, List.set_cons_succ]; have OR5 := hid (OR.out.eq_all hW5 rfl); have QB5 := hid (QB.out.eq_all hW5 (Or.inr (by simp))); clear hW5)
        have r0 := OR5.out.cell 0; have r1 := OR5.out.cell 1; have r2 := OR5.out.cell 2; have r3 := OR5.out.cell 3; have r4 := OR5.out.cell 4; have r5 := OR5.out.cell 5
        exact bodyPost_ret (v := .tuple #[.agg #[.int .u8 0, .int .u8 0, .int .u8 0, .int .u8 0, .int .u8 0, .int .u8 0], .int .i64 3]) (by simp [results, Try.results22, go_sem, *]) rfl (PEnd.no HN.out QB5.out)
    · skip
      obtain ⟨rfl, HO, OM⟩ := hh
      have x15 : ∀ W, (Instr.index 9 (.string s) (.int .i64 15)).run Try.prog W = .ok (.int .u8 (ch s 15)) W := fun W => hix.out 15 (by omega) W
      have x16 : ∀ W, (Instr.index 9 (.string s) (.int .i64 16)).run Try.prog W = .ok (.int .u8 (ch s 16)) W := fun W => hix.out 16 (by omega) W
      have ca := ch_bd s 15; have cb := ch_bd s 16
      go_wp2_with fail
      refine (digit1 _ (ch s 15) ca).mono ?_
      rintro x w2 ⟨rfl, hw⟩
      subst hw
      go_wp2_with fail
      refine (digit1 _ (ch s 16) cb).mono ?_
      rintro x w2 ⟨rfl, hw⟩
      subst hw
      have ka := dig_bd (ch s 15); have kb := dig_bd (ch s 16)
      have KA : Hid (okB s 15 = decide (0 ≤ dig (ch s 15))) := hid (by unfold okB; rw [if_neg (by decide)])
      have KB : Hid (okB s 16 = decide (0 ≤ dig (ch s 16))) := hid (by unfold okB; rw [if_neg (by decide)])
      rw [H15.out] at ka KA; rw [H16.out] at kb KB
      rw [H15.out, H16.out]
      clear ca cb
      by_cases ha : 0 ≤ d15
      · by_cases hb : 0 ≤ d16
        · have HN := hid (okext (okext HO.out (by rw [KA.out]; simpa using ha)) (by rw [KB.out]; simpa using hb))
          have m5 := OM.out.cell 5; have n5 := OM.out.frozen 5
          have hw8 : IntKind.u8.wrap (16 * d15 + d16) = d15 * 16 + d16 := by rw [IntKind.wrap_u8]; omega
          have HW8 := hid hw8; clear hw8
          have hmm : 16 * d15 + d16 = d15 * 16 + d16 := by omega
          have OM2 : Hid (Ob (wr.setCell ⟨w.heap.size + 1, 5, none⟩ (.int .u8 (d15 * 16 + d16))) (w.heap.size + 1) 23 #[.int .u8 (d0 * 16 + d1), .int .u8 (d3 * 16 + d4), .int .u8 (d6 * 16 + d7), .int .u8 (d9 * 16 + d10), .int .u8 (d12 * 16 + d13), .int .u8 (d15 * 16 + d16)]) := hid (OM.out.set 5 (.int .u8 (d15 * 16 + d16)))
          have HB2 := hid (HB.out.setCell (p := ⟨w.heap.size + 1, 5, none⟩) (Or.inl (by simp)) (.int .u8 (d15 * 16 + d16)))
          have hs1 : (16 * d15 + d16) % 256 = d15 * 16 + d16 := by omega
          go_wp2
          go_roundw
          case rel => exact ⟨.inr (.inr (.inr (.inr (.inr (.inr (⟨rfl, HN, OM2⟩)))))), HB2⟩
          case measure => simp [RowKit.intOf]
        · have HN := hid (bad_at s 16 (by omega) (by rw [KB.out]; simpa using hb))
          go_wp2_with (refine wp_storeOb rfl 23 _ _ rfl _ _ rfl rfl _ _ OR.out rfl (by kernel_rfl) (by simp [Value.oneCell']) (fun W5 hW5 => ?_); try simp only [Act.put, List.setIfInBounds_toArray, List.set_cons_zero, List.set_cons_succ]; have OR5 := hid (OR.out.eq_all hW5 rfl); have QB5 := hid (QB.out.eq_all hW5 (Or.inr (by simp))); clear hW5)
          have r0 := OR5.out.cell 0; have r1 := OR5.out.cell 1; have r2 := OR5.out.cell 2; have r3 := OR5.out.cell 3; have r4 := OR5.out.cell 4; have r5 := OR5.out.cell 5
          exact bodyPost_ret (v := .tuple #[.agg #[.int .u8 0, .int .u8 0, .int .u8 0, .int .u8 0, .int .u8 0, .int .u8 0], .int .i64 3]) (by simp [results, Try.results22, go_sem, *]) rfl (PEnd.no HN.out QB5.out)
      · have HN := hid (bad_at s 15 (by omega) (by rw [KA.out]; simpa using ha))
        go_wp2_with (refine wp_storeOb rfl 23 _ _ rfl _ _ rfl rfl _ _ OR.out rfl (by kernel_rfl) (by simp [Value.oneCell']) (fun W5 hW5 => ?_); try simp only [Act.put, List.setIfInBounds_toArray, List.set_cons_zero, List.set_cons_succ]; have OR5 := hid (OR.out.eq_all hW5 rfl); have QB5 := hid (QB.out.eq_all hW5 (Or.inr (by simp))); clear hW5)
        have r0 := OR5.out.cell 0; have r1 := OR5.out.cell 1; have r2 := OR5.out.cell 2; have r3 := OR5.out.cell 3; have r4 := OR5.out.cell 4; have r5 := OR5.out.cell 5
        exact bodyPost_ret (v := .tuple #[.agg #[.int .u8 0, .int .u8 0, .int .u8 0, .int .u8 0, .int .u8 0, .int .u8 0], .int .i64 3]) (by simp [results, Try.results22, go_sem, *]) rfl (PEnd.no HN.out QB5.out)
    · skip
      obtain ⟨rfl, HO, OM⟩ := hh
      have HG := hid (good_all s hs17 HO.out)
      have HPM : Hid (pm s = #[.int .u8 (d0 * 16 + d1), .int .u8 (d3 * 16 + d4), .int .u8 (d6 * 16 + d7), .int .u8 (d9 * 16 + d10), .int .u8 (d12 * 16 + d13), .int .u8 (d15 * 16 + d16)]) := hid (by unfold pm; rw [if_pos HG.out, H0.out, H1.out, H3.out, H4.out, H6.out, H7.out, H9.out, H10.out, H12.out, H13.out, H15.out, H16.out])
      have HPE : Hid (pe s = 0) := hid (by unfold pe; rw [if_pos HG.out])
      go_wp2_with (first
        | (refine wp_loadOb rfl 23 _ rfl (w.heap.size + 1) rfl _ 23 OM.out Try.underlying23 rfl (by kernel_rfl) ?_; try simp only [Act.put, List.setIfInBounds_toArray, List.set_cons_zero, List.set_cons_succ])
        | (refine wp_storeOb rfl 23 _ _ rfl _ _ rfl rfl _ _ OR.out rfl (by kernel_rfl) (by simp [Value.oneCell']) (fun W5 hW5 => ?_); try simp only [Act.put, List.setIfInBounds_toArray, List.set_cons_zero, List.set_cons_succ]; have OR5 := hid (OR.out.eq_all hW5 rfl); have QB5 := hid (QB.out.eq_all hW5 (Or.inr (by simp))); clear hW5))
      have r0 := OR5.out.cell 0; have r1 := OR5.out.cell 1; have r2 := OR5.out.cell 2; have r3 := OR5.out.cell 3; have r4 := OR5.out.cell 4; have r5 := OR5.out.cell 5
      exact bodyPost_ret (v := .tuple #[.agg #[.int .u8 (d0 * 16 + d1), .int .u8 (d3 * 16 + d4), .int .u8 (d6 * 16 + d7), .int .u8 (d9 * 16 + d10), .int .u8 (d12 * 16 + d13), .int .u8 (d15 * 16 + d16)], .int .i64 0]) (by simp [results, Try.results22, go_sem, *]) rfl ⟨by rw [HPM.out, HPE.out], QB5.out⟩
theorem rparse1 (w : World) (s : ByteArray) : Calls Try.prog 22 #[.string s] w (PEnd w s) := by
  by_cases h : s.size = 17
  · exact rparse17 w s h
  · exact rparseShort w s h
theorem pm_form (s : ByteArray) : ∃ a0 a1 a2 a3 a4 a5 : Int, pm s = #[.int .u8 a0, .int .u8 a1, .int .u8 a2, .int .u8 a3, .int .u8 a4, .int .u8 a5] := by
  unfold pm
  split
  · exact ⟨_, _, _, _, _, _, rfl⟩
  · exact ⟨_, _, _, _, _, _, rfl⟩
set_option maxHeartbeats 1000000 in
theorem parsesLaw (w : World) (s : ByteArray) : Calls Try.prog 7 #[.string s] w (fun e w' => e = .returned (.bool true) ∧ Only [] w w') := by
  by_cases hn : s.size > 2000
  · have h1 : (s.size : Int) > 2000 := by omega
    go_enter Try.func7, Try.ntmps7
    go_wp2
    go_ret
    exact ⟨rfl, Only.refl _ _⟩
  have h1 : ¬ (s.size : Int) > 2000 := by omega
  obtain ⟨a0, a1, a2, a3, a4, a5, hpm⟩ := pm_form s
  have HPM := hid hpm; clear hpm
  obtain ⟨er, her⟩ : ∃ e, pe s = e := ⟨_, rfl⟩
  have HER := hid her; clear her
  go_enter Try.func7, Try.ntmps7
  go_wp2_with fail
  refine (parse1 _ s).mono ?_
  rintro x w1 ⟨rfl, o1⟩
  rw [HPM.out, HER.out]
  have OA : Hid (Ob (w1.alloc (.cells #[.int .u8 a0, .int .u8 a1, .int .u8 a2, .int .u8 a3, .int .u8 a4, .int .u8 a5] 23)) w1.heap.size 23 #[.int .u8 a0, .int .u8 a1, .int .u8 a2, .int .u8 a3, .int .u8 a4, .int .u8 a5]) := hid (Ob.new _ _ _)
  have QB : Hid (Only [] w (w1.alloc (.cells #[.int .u8 a0, .int .u8 a1, .int .u8 a2, .int .u8 a3, .int .u8 a4, .int .u8 a5] 23))) := hid (o1.alloc _)
  generalize hW2 : w1.alloc (.cells #[.int .u8 a0, .int .u8 a1, .int .u8 a2, .int .u8 a3, .int .u8 a4, .int .u8 a5] 23) = W2 at *
  have HW2 := hid hW2; clear hW2 o1
  go_wp2_with fail
  rw [HW2.out]
  refine (rparse1 _ s).mono ?_
  rintro x w3 ⟨rfl, o3⟩
  rw [HPM.out, HER.out]
  have OA := hid ((OA.out.only o3 (by simp)).alloc (.cells #[.int .u8 a0, .int .u8 a1, .int .u8 a2, .int .u8 a3, .int .u8 a4, .int .u8 a5] 23))
  have OB : Hid (Ob (w3.alloc (.cells #[.int .u8 a0, .int .u8 a1, .int .u8 a2, .int .u8 a3, .int .u8 a4, .int .u8 a5] 23)) w3.heap.size 23 #[.int .u8 a0, .int .u8 a1, .int .u8 a2, .int .u8 a3, .int .u8 a4, .int .u8 a5]) := hid (Ob.new _ _ _)
  have QB : Hid (Only [] w (w3.alloc (.cells #[.int .u8 a0, .int .u8 a1, .int .u8 a2, .int .u8 a3, .int .u8 a4, .int .u8 a5] 23))) := hid ((QB.out.trans o3).alloc _)
  clear o3
  have E := fun W => eth_eq W a0 a1 a2 a3 a4 a5 a0 a1 a2 a3 a4 a5 true (by simp [eqM])
  go_wp2_with (first
    | (refine wp_loadOb rfl 23 (.tmp 3) rfl w1.heap.size rfl _ 23 OA.out Try.underlying23 rfl (by kernel_rfl) ?_; try simp only [Act.put, List.setIfInBounds_toArray, List.set_cons_zero, List.set_cons_succ])
    | (refine wp_loadOb rfl 23 (.tmp 5) rfl w3.heap.size rfl _ 23 OB.out Try.underlying23 rfl (by kernel_rfl) ?_; try simp only [Act.put, List.setIfInBounds_toArray, List.set_cons_zero, List.set_cons_succ])
    | fail)
  refine (ev.known _).mono ?_
  rintro x w9 ⟨rfl, o9⟩
  have QB := hid (QB.out.trans o9); clear o9
  go_wp2
  go_ret
  exact ⟨rfl, QB.out⟩
end Go.Proofs.Ytiihhngddmboaaa.eth
