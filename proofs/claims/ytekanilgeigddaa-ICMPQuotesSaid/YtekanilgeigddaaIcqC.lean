/-
  Chapter 9 (icmp): whom a quoted packet is of, by a walk of the text. Conditions: none but those typed.
-/
import Derived.Test.YtekanilgeigddaaIcqB
import Derived.Test.YtekanilgeigddaaStc
namespace Go.Proofs.Ytekanilgeigddaa.ip
set_option linter.unusedVariables false
set_option linter.unusedSimpArgs false
open Go.ChangeShapes Go.WideShapes Go.ChangeAt Go.RowKit Go.IntWalk Go.Lib
def fpF (pr b13 : Int) (hh : Nat) (l : List Int) : Int := if (pr = 17 ∨ pr = 6) ∧ b13 = 0 ∧ hh + 4 ≤ l.length then rdr.num ((l.drop hh).take 2) else 0
def tpF (pr b13 : Int) (hh : Nat) (l : List Int) : Int := if (pr = 17 ∨ pr = 6) ∧ b13 = 0 ∧ hh + 4 ≤ l.length then rdr.num ((l.drop (hh + 2)).take 2) else 0
set_option maxRecDepth 100000 in
set_option maxHeartbeats 8000000 in
theorem flow1 (w : World) (A : Option Addr) (n c : Nat) (l : List Int) (k hh : Nat) (B b13 pr fr to : Int) (hl : Rd .u8 w A n l) (hc0 : A = none → c = 0) (h20 : 20 ≤ hh) (hhn : hh ≤ n) (hn : n ≤ 70000) (hk : k < 16) (hk4 : hh = k * 4)
    (e0 : rdr.num (l.take 1) = 64 + (k : Int)) (e3 : rdr.num ((l.drop 6).take 2) = B) (e5 : rdr.num ((l.drop 9).take 1) = pr) (e6 : rdr.num ((l.drop 12).take 4) = fr) (e7 : rdr.num ((l.drop 16).take 4) = to)
    (hb13 : bits .and .i64 B 8191 = b13) (hbb : 0 ≤ b13 ∧ b13 ≤ 8191) :
    Calls Try.prog 25 #[.slice A n c] w fun x w' => x = .returned (.tuple #[.agg #[.int .i64 pr, .int .u32 fr, .int .i64 (fpF pr b13 hh l), .int .u32 to, .int .i64 (tpF pr b13 hh l)], .int .i64 0]) ∧ Only [] w w' := by
  have E0 := hid e0; have E3 := hid e3; have E5 := hid e5; have E6 := hid e6; have E7 := hid e7
  clear e0 e3 e5 e6 e7
  have HB13 := hid hb13
  clear hb13
  have m1 := hid (and15 k hk)
  have m2 : Hid (wrap64 ((k : Int) * 4) = (hh : Int)) := hid (by rw [wrap64_in _ (by omega)]; omega)
  obtain ⟨J, hJ⟩ : ∃ J, J = hh - 20 := ⟨_, rfl⟩
  have m4 : Hid (wrap64 ((hh : Int) - 20) = (J : Int)) := hid (by rw [wrap64_in _ (by omega)]; omega)
  have HJ := hid hJ
  clear hJ
  have HK16 := hid hk
  clear hk4 hk
  have OR : Hid (Ob (w.alloc (.cells #[.int .i64 0, .int .u32 0, .int .i64 0, .int .u32 0, .int .i64 0] 50)) w.heap.size 50 #[.int .i64 0, .int .u32 0, .int .i64 0, .int .u32 0, .int .i64 0]) := hid (Ob.new _ _ _)
  have QB : Hid (Only [] w (w.alloc (.cells #[.int .i64 0, .int .u32 0, .int .i64 0, .int .u32 0, .int .i64 0] 50))) := hid ((Only.refl [] w).alloc _)
  have HLen := hid hl.len
  have HC := hid hc0
  clear hc0
  have HL := hid (hl.alloc (.cells #[.int .i64 0, .int .u32 0, .int .i64 0, .int .u32 0, .int .i64 0] 50))
  clear hl
  obtain ⟨Z, hZ⟩ : ∃ Z, (64 + (k : Int)) = Z := ⟨_, rfl⟩
  obtain ⟨Y, hY⟩ : ∃ Y, bits .and .i64 Z 15 = Y := ⟨_, rfl⟩
  have hYk : Y = (k : Int) := by rw [← hY, ← hZ]; exact m1.out
  have hdv : Z / 16 = 4 := by have := HK16.out; omega
  have HZ := hid hZ; have HY := hid hY; have HYK := hid hYk; have HDV := hid hdv
  rw [hZ] at E0
  clear hZ hY hYk hdv
  go_enter Try.func25, Try.ntmps25
  go_wp2_with fail
  refine (rdr.new1 _ _ n c l HL.out HC.out (by omega)).mono ?_
  rintro x1 w4 ⟨r, e, p, rfl, h5, o4⟩
  have hl3 := OR.out.lt
  have OR := hid (OR.out.only o4 (by simp)); have QB := hid (QB.out.trans o4); clear o4
  have RD := hid h5; clear h5
  have hlow := RD.out.lows
  obtain ⟨hlo1, hlo2, hlo3, hlo4⟩ := hlow
  have hw3 := QB.out.size
  have hz4 : w4.heap.size ≤ w4.heap.size := Nat.le_refl _
  go_wp2_with fail
  refine (rdr.byte_ok _ _ _ r e p l RD.out (by rw [HLen.out]; omega)).mono ?_
  rintro x1 w5 ⟨rfl, h5, o5⟩
  rw [E0.out]
  have RD := hid (show rdr.Rdr w5 _ _ r e p 0 (l.drop 1) from by simpa [List.drop_drop] using h5); have OR := hid (OR.out.only o5 (by simp; omega)); have QB := hid (QB.out.fresh o5 (by simp; omega)); have hz4 := Nat.le_trans hz4 o5.size
  clear h5 o5
  go_wp2_with fail
  refine (rdr.raw_ok _ _ _ r e p (l.drop 1) 5 5 RD.out rfl (by simp; rw [HLen.out]; omega) (by decide)).mono ?_
  rintro x1 w6 ⟨v6, rfl, hv6, h6, o6⟩
  have RD := hid (show rdr.Rdr w6 _ _ r e p 0 (l.drop 6) from by simpa [List.drop_drop] using h6); have OR := hid (OR.out.only o6 (by simp; omega)); have QB := hid (QB.out.fresh o6 (by simp; omega)); have hz4 := Nat.le_trans hz4 o6.size
  clear h6 o6 hv6
  go_wp2_with fail
  refine (rdr.two_ok _ _ _ r e p (l.drop 6) RD.out (by simp; rw [HLen.out]; omega)).mono ?_
  rintro x1 w7 ⟨rfl, h7, o7⟩
  rw [E3.out]
  have RD := hid (show rdr.Rdr w7 _ _ r e p 0 (l.drop 8) from by simpa [List.drop_drop] using h7); have OR := hid (OR.out.only o7 (by simp; omega)); have QB := hid (QB.out.fresh o7 (by simp; omega)); have hz4 := Nat.le_trans hz4 o7.size
  clear h7 o7
  have hb13 := HB13.out
  go_wp2_with fail
  clear hb13
  refine (rdr.byte_ok _ _ _ r e p (l.drop 8) RD.out (by simp; rw [HLen.out]; omega)).mono ?_
  rintro x1 w8 ⟨rfl, h8, o8⟩
  have RD := hid (show rdr.Rdr w8 _ _ r e p 0 (l.drop 9) from by simpa [List.drop_drop] using h8); have OR := hid (OR.out.only o8 (by simp; omega)); have QB := hid (QB.out.fresh o8 (by simp; omega)); have hz4 := Nat.le_trans hz4 o8.size
  clear h8 o8
  go_wp2_with fail
  refine (rdr.byte_ok _ _ _ r e p (l.drop 9) RD.out (by simp; rw [HLen.out]; omega)).mono ?_
  rintro x1 w9 ⟨rfl, h9, o9⟩
  rw [E5.out]
  have RD := hid (show rdr.Rdr w9 _ _ r e p 0 (l.drop 10) from by simpa [List.drop_drop] using h9); have OR := hid (OR.out.only o9 (by simp; omega)); have QB := hid (QB.out.fresh o9 (by simp; omega)); have hz4 := Nat.le_trans hz4 o9.size
  clear h9 o9
  have O13 : Hid (Ob (w9.alloc (.cells #[.int .i64 pr, .int .u32 0, .int .i64 0, .int .u32 0, .int .i64 0] 50)) w9.heap.size 50 #[.int .i64 pr, .int .u32 0, .int .i64 0, .int .u32 0, .int .i64 0]) := hid (Ob.new _ _ _)
  have hl8 := OR.out.lt
  have hlow := RD.out.lows
  obtain ⟨_, _, hlo5, hlo6⟩ := hlow
  have RD := hid (RD.out.only_nil ((Only.refl [] _).alloc (.cells #[.int .i64 pr, .int .u32 0, .int .i64 0, .int .u32 0, .int .i64 0] 50))); have OR := hid (OR.out.alloc (.cells #[.int .i64 pr, .int .u32 0, .int .i64 0, .int .u32 0, .int .i64 0] 50)); have QB := hid (QB.out.alloc (.cells #[.int .i64 pr, .int .u32 0, .int .i64 0, .int .u32 0, .int .i64 0] 50))
  have hz8 := hz4
  have hz4 : w4.heap.size ≤ (w9.alloc (.cells #[.int .i64 pr, .int .u32 0, .int .i64 0, .int .u32 0, .int .i64 0] 50)).heap.size := by simp; omega
  go_wp2_with fail
  refine (rdr.two_ok _ _ _ r e p (l.drop 10) RD.out (by simp; rw [HLen.out]; omega)).mono ?_
  rintro x1 w10 ⟨rfl, h10, o10⟩
  have RD := hid (show rdr.Rdr w10 _ _ r e p 0 (l.drop 12) from by simpa [List.drop_drop] using h10); have OR := hid (OR.out.only o10 (by simp; omega)); have QB := hid (QB.out.fresh o10 (by simp; omega)); have hz4 := Nat.le_trans hz4 o10.size
  have O13 := hid (O13.out.only o10 (by simp; omega))
  clear h10 o10
  go_wp2_with fail
  refine (rdr.four_ok _ _ _ r e p (l.drop 12) RD.out (by simp; rw [HLen.out]; omega)).mono ?_
  rintro x1 w11 ⟨rfl, h11, o11⟩
  rw [E6.out]
  have RD := hid (show rdr.Rdr w11 _ _ r e p 0 (l.drop 16) from by simpa [List.drop_drop] using h11); have OR := hid (OR.out.only o11 (by simp; omega)); have QB := hid (QB.out.fresh o11 (by simp; omega)); have hz4 := Nat.le_trans hz4 o11.size
  have O13 := hid (O13.out.only o11 (by simp; omega))
  clear h11 o11
  have q2 := O13.out.cell 1; have q3 := O13.out.frozen 1
  have RD := hid (RD.out.only ((Only.refl [w9.heap.size] w11).setCell (p := ⟨w9.heap.size, 1, none⟩) (Or.inl (by simp)) (.int .u32 fr)) (by simp; omega)); have OR := hid (OR.out.far (p := ⟨w9.heap.size, 1, none⟩) (by simp; omega) (.int .u32 fr)); have QB := hid (QB.out.setCell (p := ⟨w9.heap.size, 1, none⟩) (Or.inr (by simp; omega)) (.int .u32 fr)); have hz4 : w4.heap.size ≤ (w11.setCell ⟨w9.heap.size, 1, none⟩ (.int .u32 fr)).heap.size := by simp; omega
  have O13 : Hid (Ob _ w9.heap.size 50 #[.int .i64 pr, .int .u32 fr, .int .i64 0, .int .u32 0, .int .i64 0]) := hid (O13.out.set 1 (.int .u32 fr))
  go_wp2_with fail
  clear q2 q3
  refine (rdr.four_ok _ _ _ r e p (l.drop 16) RD.out (by simp; rw [HLen.out]; omega)).mono ?_
  rintro x1 w12 ⟨rfl, h12, o12⟩
  rw [E7.out]
  have RD := hid (show rdr.Rdr w12 _ _ r e p 0 (l.drop 20) from by simpa [List.drop_drop] using h12); have OR := hid (OR.out.only o12 (by simp; omega)); have QB := hid (QB.out.fresh o12 (by simp; omega)); have hz4 := Nat.le_trans hz4 o12.size
  have O13 := hid (O13.out.only o12 (by simp; omega))
  clear h12 o12
  have q6 := O13.out.cell 3; have q7 := O13.out.frozen 3
  have RD := hid (RD.out.only ((Only.refl [w9.heap.size] w12).setCell (p := ⟨w9.heap.size, 3, none⟩) (Or.inl (by simp)) (.int .u32 to)) (by simp; omega)); have OR := hid (OR.out.far (p := ⟨w9.heap.size, 3, none⟩) (by simp; omega) (.int .u32 to)); have QB := hid (QB.out.setCell (p := ⟨w9.heap.size, 3, none⟩) (Or.inr (by simp; omega)) (.int .u32 to)); have hz4 : w4.heap.size ≤ (w12.setCell ⟨w9.heap.size, 3, none⟩ (.int .u32 to)).heap.size := by simp; omega
  have O13 : Hid (Ob _ w9.heap.size 50 #[.int .i64 pr, .int .u32 fr, .int .i64 0, .int .u32 to, .int .i64 0]) := hid (O13.out.set 3 (.int .u32 to))
  go_wp2_with fail
  clear q6 q7
  refine (rdr.err_ok _ _ _ r e p (l.drop 20) RD.out).mono ?_
  rintro x1 w13 ⟨rfl, h13, o13⟩
  have RD := hid (show rdr.Rdr w13 _ _ r e p 0 (l.drop 20) from by simpa [List.drop_drop] using h13); have OR := hid (OR.out.only o13 (by simp; omega)); have QB := hid (QB.out.fresh o13 (by simp; omega)); have hz4 := Nat.le_trans hz4 o13.size
  have O13 := hid (O13.out.only o13 (by simp; omega))
  clear h13 o13
  have a1 := HY.out
  have a3 := HDV.out
  have a2 : wrap64 (Y * 4) = (hh : Int) := by rw [HYK.out]; exact m2.out
  go_wp2_with fail
  clear a1 a2 a3
  refine (rdr.raw_ok _ _ _ r e p (l.drop 20) ((hh : Int) - 20) (hh - 20) RD.out (by omega) (by simp; rw [HLen.out]; omega) (by omega)).mono ?_
  rintro x1 w14 ⟨v14, rfl, hv14, h14, o14⟩
  have RD := hid (show rdr.Rdr w14 _ _ r e p 0 (l.drop hh) from by have h := h14; rw [List.drop_drop, show 20 + (hh - 20) = hh from by omega] at h; exact h); have OR := hid (OR.out.only o14 (by simp; omega)); have QB := hid (QB.out.fresh o14 (by simp; omega)); have hz4 := Nat.le_trans hz4 o14.size
  have O13 := hid (O13.out.only o14 (by simp; omega))
  clear h14 o14 hv14
  go_wp2_with fail
  refine (rdr.err_ok _ _ _ r e p (l.drop hh) RD.out).mono ?_
  rintro x1 w15 ⟨rfl, h15, o15⟩
  have RD := hid (show rdr.Rdr w15 _ _ r e p 0 (l.drop hh) from by simpa [List.drop_drop] using h15); have OR := hid (OR.out.only o15 (by simp; omega)); have QB := hid (QB.out.fresh o15 (by simp; omega)); have hz4 := Nat.le_trans hz4 o15.size
  have O13 := hid (O13.out.only o15 (by simp; omega))
  clear h15 o15
  by_cases h17 : pr = 17
  · skip
    have q0 := O13.out.cell 0
    by_cases hb : b13 = 0
    · skip
      go_wp2_with fail
      have HPR := hid h17; have HB0 := hid hb
      clear q0 h17 hb
      refine (rdr.left_ok _ _ _ r e p (l.drop hh) RD.out).mono ?_
      rintro x1 w16 ⟨rfl, h16, o16⟩
      have RD := hid (show rdr.Rdr w16 _ _ r e p 0 (l.drop hh) from by simpa [List.drop_drop] using h16); have OR := hid (OR.out.only o16 (by simp; omega)); have QB := hid (QB.out.fresh o16 (by simp; omega)); have hz4 := Nat.le_trans hz4 o16.size
      have O13 := hid (O13.out.only o16 (by simp; omega))
      clear h16 o16
      have hlen : ((l.drop hh).length : Int) = ((n - hh : Nat) : Int) := by simp; rw [HLen.out]; try omega
      rw [hlen]
      clear hlen
      by_cases h4 : hh + 4 ≤ n
      · have hg4 : (4 : Int) ≤ ((n - hh : Nat) : Int) := by omega
        go_wp2_with fail
        clear hg4
        refine (rdr.two_ok _ _ _ r e p (l.drop hh) RD.out (by simp; rw [HLen.out]; omega)).mono ?_
        rintro x1 w17 ⟨rfl, h17, o17⟩
        have RD := hid (show rdr.Rdr w17 _ _ r e p 0 (l.drop (hh + 2)) from by simpa [List.drop_drop] using h17); have OR := hid (OR.out.only o17 (by simp; omega)); have QB := hid (QB.out.fresh o17 (by simp; omega)); have hz4 := Nat.le_trans hz4 o17.size
        have O13 := hid (O13.out.only o17 (by simp; omega))
        clear h17 o17
        obtain ⟨FP, hFP⟩ : ∃ FP, rdr.num ((l.drop hh).take 2) = FP := ⟨_, rfl⟩
        rw [hFP]
        have q4 := O13.out.cell 2; have q5 := O13.out.frozen 2
        have RD := hid (RD.out.only ((Only.refl [w9.heap.size] w17).setCell (p := ⟨w9.heap.size, 2, none⟩) (Or.inl (by simp)) (.int .i64 FP)) (by simp; omega)); have OR := hid (OR.out.far (p := ⟨w9.heap.size, 2, none⟩) (by simp; omega) (.int .i64 FP)); have QB := hid (QB.out.setCell (p := ⟨w9.heap.size, 2, none⟩) (Or.inr (by simp; omega)) (.int .i64 FP)); have hz4 : w4.heap.size ≤ (w17.setCell ⟨w9.heap.size, 2, none⟩ (.int .i64 FP)).heap.size := by simp; omega
        have O13 : Hid (Ob _ w9.heap.size 50 #[.int .i64 pr, .int .u32 fr, .int .i64 FP, .int .u32 to, .int .i64 0]) := hid (O13.out.set 2 (.int .i64 FP))
        go_wp2_with fail
        clear q4 q5
        refine (rdr.two_ok _ _ _ r e p (l.drop (hh + 2)) RD.out (by simp; rw [HLen.out]; omega)).mono ?_
        rintro x1 w18 ⟨rfl, h18, o18⟩
        have RD := hid (show rdr.Rdr w18 _ _ r e p 0 (l.drop (hh + 4)) from by simpa [List.drop_drop] using h18); have OR := hid (OR.out.only o18 (by simp; omega)); have QB := hid (QB.out.fresh o18 (by simp; omega)); have hz4 := Nat.le_trans hz4 o18.size
        have O13 := hid (O13.out.only o18 (by simp; omega))
        clear h18 o18
        obtain ⟨TP, hTP⟩ : ∃ TP, rdr.num ((l.drop (hh + 2)).take 2) = TP := ⟨_, rfl⟩
        rw [hTP]
        have q8 := O13.out.cell 4; have q9 := O13.out.frozen 4
        have RD := hid (RD.out.only ((Only.refl [w9.heap.size] w18).setCell (p := ⟨w9.heap.size, 4, none⟩) (Or.inl (by simp)) (.int .i64 TP)) (by simp; omega)); have OR := hid (OR.out.far (p := ⟨w9.heap.size, 4, none⟩) (by simp; omega) (.int .i64 TP)); have QB := hid (QB.out.setCell (p := ⟨w9.heap.size, 4, none⟩) (Or.inr (by simp; omega)) (.int .i64 TP)); have hz4 : w4.heap.size ≤ (w18.setCell ⟨w9.heap.size, 4, none⟩ (.int .i64 TP)).heap.size := by simp; omega
        have O13 : Hid (Ob _ w9.heap.size 50 #[.int .i64 pr, .int .u32 fr, .int .i64 FP, .int .u32 to, .int .i64 TP]) := hid (O13.out.set 4 (.int .i64 TP))
        have HFP : Hid (fpF pr b13 hh l = FP) := hid (by unfold fpF; rw [if_pos ⟨(Or.inl HPR.out), HB0.out, by rw [HLen.out]; exact h4⟩]; exact hFP)
        have HTP : Hid (tpF pr b13 hh l = TP) := hid (by unfold tpF; rw [if_pos ⟨(Or.inl HPR.out), HB0.out, by rw [HLen.out]; exact h4⟩]; exact hTP)
        clear hFP hTP
        have hl13 := O13.out.lt; have hl14 := OR.out.lt
        go_wp2_with (first
          | (refine wp_loadOb rfl 50 _ rfl _ rfl _ _ O13.out Try.underlying50 rfl (by kernel_rfl) ?_; try simp only [Act.put, List.setIfInBounds_toArray, List.set_cons_zero, List.set_cons_succ])
          | (refine wp_storeOb rfl 50 _ _ rfl _ _ rfl rfl _ _ OR.out rfl (by kernel_rfl) (by simp [Value.oneCell']) (fun W5 hW5 => ?_); try simp only [Act.put, List.setIfInBounds_toArray, List.set_cons_zero, List.set_cons_succ]; have OR5 := hid (OR.out.eq_all hW5 rfl); have QB5 := hid (QB.out.eq_all hW5 (Or.inr (by simp))); clear hW5))
        have r0 := OR5.out.cell 0; have r1 := OR5.out.cell 1; have r2 := OR5.out.cell 2; have r3 := OR5.out.cell 3; have r4 := OR5.out.cell 4
        exact bodyPost_ret (v := .tuple #[.agg #[.int .i64 pr, .int .u32 fr, .int .i64 FP, .int .u32 to, .int .i64 TP], .int .i64 0]) (by simp [results, Try.results25, go_sem, *]) rfl ⟨by rw [HFP.out, HTP.out], QB5.out⟩
      · have hg4 : ¬ (4 : Int) ≤ ((n - hh : Nat) : Int) := by omega
        have HFP : Hid (fpF pr b13 hh l = 0) := hid (by unfold fpF; rw [if_neg (fun h => h4 (by have := h.2.2; rw [HLen.out] at this; exact this))])
        have HTP : Hid (tpF pr b13 hh l = 0) := hid (by unfold tpF; rw [if_neg (fun h => h4 (by have := h.2.2; rw [HLen.out] at this; exact this))])
        have hl13 := O13.out.lt; have hl14 := OR.out.lt
        go_wp2_with (first
          | (refine wp_loadOb rfl 50 _ rfl _ rfl _ _ O13.out Try.underlying50 rfl (by kernel_rfl) ?_; try simp only [Act.put, List.setIfInBounds_toArray, List.set_cons_zero, List.set_cons_succ])
          | (refine wp_storeOb rfl 50 _ _ rfl _ _ rfl rfl _ _ OR.out rfl (by kernel_rfl) (by simp [Value.oneCell']) (fun W5 hW5 => ?_); try simp only [Act.put, List.setIfInBounds_toArray, List.set_cons_zero, List.set_cons_succ]; have OR5 := hid (OR.out.eq_all hW5 rfl); have QB5 := hid (QB.out.eq_all hW5 (Or.inr (by simp))); clear hW5))
        have r0 := OR5.out.cell 0; have r1 := OR5.out.cell 1; have r2 := OR5.out.cell 2; have r3 := OR5.out.cell 3; have r4 := OR5.out.cell 4
        exact bodyPost_ret (v := .tuple #[.agg #[.int .i64 pr, .int .u32 fr, .int .i64 0, .int .u32 to, .int .i64 0], .int .i64 0]) (by simp [results, Try.results25, go_sem, *]) rfl ⟨by rw [HFP.out, HTP.out], QB5.out⟩
    · skip
      have HFP : Hid (fpF pr b13 hh l = 0) := hid (by unfold fpF; rw [if_neg (fun h => hb h.2.1)])
      have HTP : Hid (tpF pr b13 hh l = 0) := hid (by unfold tpF; rw [if_neg (fun h => hb h.2.1)])
      have hl13 := O13.out.lt; have hl14 := OR.out.lt
      go_wp2_with (first
        | (refine wp_loadOb rfl 50 _ rfl _ rfl _ _ O13.out Try.underlying50 rfl (by kernel_rfl) ?_; try simp only [Act.put, List.setIfInBounds_toArray, List.set_cons_zero, List.set_cons_succ])
        | (refine wp_storeOb rfl 50 _ _ rfl _ _ rfl rfl _ _ OR.out rfl (by kernel_rfl) (by simp [Value.oneCell']) (fun W5 hW5 => ?_); try simp only [Act.put, List.setIfInBounds_toArray, List.set_cons_zero, List.set_cons_succ]; have OR5 := hid (OR.out.eq_all hW5 rfl); have QB5 := hid (QB.out.eq_all hW5 (Or.inr (by simp))); clear hW5))
      have r0 := OR5.out.cell 0; have r1 := OR5.out.cell 1; have r2 := OR5.out.cell 2; have r3 := OR5.out.cell 3; have r4 := OR5.out.cell 4
      exact bodyPost_ret (v := .tuple #[.agg #[.int .i64 pr, .int .u32 fr, .int .i64 0, .int .u32 to, .int .i64 0], .int .i64 0]) (by simp [results, Try.results25, go_sem, *]) rfl ⟨by rw [HFP.out, HTP.out], QB5.out⟩
  · by_cases h6 : pr = 6
    · skip
      have q0 := O13.out.cell 0
      by_cases hb : b13 = 0
      · skip
        go_wp2_with fail
        have HPR := hid h6; have HB0 := hid hb
        clear q0 h6 hb
        refine (rdr.left_ok _ _ _ r e p (l.drop hh) RD.out).mono ?_
        rintro x1 w16 ⟨rfl, h16, o16⟩
        have RD := hid (show rdr.Rdr w16 _ _ r e p 0 (l.drop hh) from by simpa [List.drop_drop] using h16); have OR := hid (OR.out.only o16 (by simp; omega)); have QB := hid (QB.out.fresh o16 (by simp; omega)); have hz4 := Nat.le_trans hz4 o16.size
        have O13 := hid (O13.out.only o16 (by simp; omega))
        clear h16 o16
        have hlen : ((l.drop hh).length : Int) = ((n - hh : Nat) : Int) := by simp; rw [HLen.out]; try omega
        rw [hlen]
        clear hlen
        by_cases h4 : hh + 4 ≤ n
        · have hg4 : (4 : Int) ≤ ((n - hh : Nat) : Int) := by omega
          go_wp2_with fail
          clear hg4
          refine (rdr.two_ok _ _ _ r e p (l.drop hh) RD.out (by simp; rw [HLen.out]; omega)).mono ?_
          rintro x1 w17 ⟨rfl, h17, o17⟩
          have RD := hid (show rdr.Rdr w17 _ _ r e p 0 (l.drop (hh + 2)) from by simpa [List.drop_drop] using h17); have OR := hid (OR.out.only o17 (by simp; omega)); have QB := hid (QB.out.fresh o17 (by simp; omega)); have hz4 := Nat.le_trans hz4 o17.size
          have O13 := hid (O13.out.only o17 (by simp; omega))
          clear h17 o17
          obtain ⟨FP, hFP⟩ : ∃ FP, rdr.num ((l.drop hh).take 2) = FP := ⟨_, rfl⟩
          rw [hFP]
          have q4 := O13.out.cell 2; have q5 := O13.out.frozen 2
          have RD := hid (RD.out.only ((Only.refl [w9.heap.size] w17).setCell (p := ⟨w9.heap.size, 2, none⟩) (Or.inl (by simp)) (.int .i64 FP)) (by simp; omega)); have OR := hid (OR.out.far (p := ⟨w9.heap.size, 2, none⟩) (by simp; omega) (.int .i64 FP)); have QB := hid (QB.out.setCell (p := ⟨w9.heap.size, 2, none⟩) (Or.inr (by simp; omega)) (.int .i64 FP)); have hz4 : w4.heap.size ≤ (w17.setCell ⟨w9.heap.size, 2, none⟩ (.int .i64 FP)).heap.size := by simp; omega
          have O13 : Hid (Ob _ w9.heap.size 50 #[.int .i64 pr, .int .u32 fr, .int .i64 FP, .int .u32 to, .int .i64 0]) := hid (O13.out.set 2 (.int .i64 FP))
          go_wp2_with fail
          clear q4 q5
          refine (rdr.two_ok _ _ _ r e p (l.drop (hh + 2)) RD.out (by simp; rw [HLen.out]; omega)).mono ?_
          rintro x1 w18 ⟨rfl, h18, o18⟩
          have RD := hid (show rdr.Rdr w18 _ _ r e p 0 (l.drop (hh + 4)) from by simpa [List.drop_drop] using h18); have OR := hid (OR.out.only o18 (by simp; omega)); have QB := hid (QB.out.fresh o18 (by simp; omega)); have hz4 := Nat.le_trans hz4 o18.size
          have O13 := hid (O13.out.only o18 (by simp; omega))
          clear h18 o18
          obtain ⟨TP, hTP⟩ : ∃ TP, rdr.num ((l.drop (hh + 2)).take 2) = TP := ⟨_, rfl⟩
          rw [hTP]
          have q8 := O13.out.cell 4; have q9 := O13.out.frozen 4
          have RD := hid (RD.out.only ((Only.refl [w9.heap.size] w18).setCell (p := ⟨w9.heap.size, 4, none⟩) (Or.inl (by simp)) (.int .i64 TP)) (by simp; omega)); have OR := hid (OR.out.far (p := ⟨w9.heap.size, 4, none⟩) (by simp; omega) (.int .i64 TP)); have QB := hid (QB.out.setCell (p := ⟨w9.heap.size, 4, none⟩) (Or.inr (by simp; omega)) (.int .i64 TP)); have hz4 : w4.heap.size ≤ (w18.setCell ⟨w9.heap.size, 4, none⟩ (.int .i64 TP)).heap.size := by simp; omega
          have O13 : Hid (Ob _ w9.heap.size 50 #[.int .i64 pr, .int .u32 fr, .int .i64 FP, .int .u32 to, .int .i64 TP]) := hid (O13.out.set 4 (.int .i64 TP))
          have HFP : Hid (fpF pr b13 hh l = FP) := hid (by unfold fpF; rw [if_pos ⟨(Or.inr HPR.out), HB0.out, by rw [HLen.out]; exact h4⟩]; exact hFP)
          have HTP : Hid (tpF pr b13 hh l = TP) := hid (by unfold tpF; rw [if_pos ⟨(Or.inr HPR.out), HB0.out, by rw [HLen.out]; exact h4⟩]; exact hTP)
          clear hFP hTP
          have hl13 := O13.out.lt; have hl14 := OR.out.lt
          go_wp2_with (first
            | (refine wp_loadOb rfl 50 _ rfl _ rfl _ _ O13.out Try.underlying50 rfl (by kernel_rfl) ?_; try simp only [Act.put, List.setIfInBounds_toArray, List.set_cons_zero, List.set_cons_succ])
            | (refine wp_storeOb rfl 50 _ _ rfl _ _ rfl rfl _ _ OR.out rfl (by kernel_rfl) (by simp [Value.oneCell']) (fun W5 hW5 => ?_); try simp only [Act.put, List.setIfInBounds_toArray, List.set_cons_zero, List.set_cons_succ]; have OR5 := hid (OR.out.eq_all hW5 rfl); have QB5 := hid (QB.out.eq_all hW5 (Or.inr (by simp))); clear hW5))
          have r0 := OR5.out.cell 0; have r1 := OR5.out.cell 1; have r2 := OR5.out.cell 2; have r3 := OR5.out.cell 3; have r4 := OR5.out.cell 4
          exact bodyPost_ret (v := .tuple #[.agg #[.int .i64 pr, .int .u32 fr, .int .i64 FP, .int .u32 to, .int .i64 TP], .int .i64 0]) (by simp [results, Try.results25, go_sem, *]) rfl ⟨by rw [HFP.out, HTP.out], QB5.out⟩
        · have hg4 : ¬ (4 : Int) ≤ ((n - hh : Nat) : Int) := by omega
          have HFP : Hid (fpF pr b13 hh l = 0) := hid (by unfold fpF; rw [if_neg (fun h => h4 (by have := h.2.2; rw [HLen.out] at this; exact this))])
          have HTP : Hid (tpF pr b13 hh l = 0) := hid (by unfold tpF; rw [if_neg (fun h => h4 (by have := h.2.2; rw [HLen.out] at this; exact this))])
          have hl13 := O13.out.lt; have hl14 := OR.out.lt
          go_wp2_with (first
            | (refine wp_loadOb rfl 50 _ rfl _ rfl _ _ O13.out Try.underlying50 rfl (by kernel_rfl) ?_; try simp only [Act.put, List.setIfInBounds_toArray, List.set_cons_zero, List.set_cons_succ])
            | (refine wp_storeOb rfl 50 _ _ rfl _ _ rfl rfl _ _ OR.out rfl (by kernel_rfl) (by simp [Value.oneCell']) (fun W5 hW5 => ?_); try simp only [Act.put, List.setIfInBounds_toArray, List.set_cons_zero, List.set_cons_succ]; have OR5 := hid (OR.out.eq_all hW5 rfl); have QB5 := hid (QB.out.eq_all hW5 (Or.inr (by simp))); clear hW5))
          have r0 := OR5.out.cell 0; have r1 := OR5.out.cell 1; have r2 := OR5.out.cell 2; have r3 := OR5.out.cell 3; have r4 := OR5.out.cell 4
          exact bodyPost_ret (v := .tuple #[.agg #[.int .i64 pr, .int .u32 fr, .int .i64 0, .int .u32 to, .int .i64 0], .int .i64 0]) (by simp [results, Try.results25, go_sem, *]) rfl ⟨by rw [HFP.out, HTP.out], QB5.out⟩
      · skip
        have HFP : Hid (fpF pr b13 hh l = 0) := hid (by unfold fpF; rw [if_neg (fun h => hb h.2.1)])
        have HTP : Hid (tpF pr b13 hh l = 0) := hid (by unfold tpF; rw [if_neg (fun h => hb h.2.1)])
        have hl13 := O13.out.lt; have hl14 := OR.out.lt
        go_wp2_with (first
          | (refine wp_loadOb rfl 50 _ rfl _ rfl _ _ O13.out Try.underlying50 rfl (by kernel_rfl) ?_; try simp only [Act.put, List.setIfInBounds_toArray, List.set_cons_zero, List.set_cons_succ])
          | (refine wp_storeOb rfl 50 _ _ rfl _ _ rfl rfl _ _ OR.out rfl (by kernel_rfl) (by simp [Value.oneCell']) (fun W5 hW5 => ?_); try simp only [Act.put, List.setIfInBounds_toArray, List.set_cons_zero, List.set_cons_succ]; have OR5 := hid (OR.out.eq_all hW5 rfl); have QB5 := hid (QB.out.eq_all hW5 (Or.inr (by simp))); clear hW5))
        have r0 := OR5.out.cell 0; have r1 := OR5.out.cell 1; have r2 := OR5.out.cell 2; have r3 := OR5.out.cell 3; have r4 := OR5.out.cell 4
        exact bodyPost_ret (v := .tuple #[.agg #[.int .i64 pr, .int .u32 fr, .int .i64 0, .int .u32 to, .int .i64 0], .int .i64 0]) (by simp [results, Try.results25, go_sem, *]) rfl ⟨by rw [HFP.out, HTP.out], QB5.out⟩
    · have q0 := O13.out.cell 0
      have HFP : Hid (fpF pr b13 hh l = 0) := hid (by unfold fpF; rw [if_neg (fun h => h.1.elim h17 h6)])
      have HTP : Hid (tpF pr b13 hh l = 0) := hid (by unfold tpF; rw [if_neg (fun h => h.1.elim h17 h6)])
      have hl13 := O13.out.lt; have hl14 := OR.out.lt
      go_wp2_with (first
        | (refine wp_loadOb rfl 50 _ rfl _ rfl _ _ O13.out Try.underlying50 rfl (by kernel_rfl) ?_; try simp only [Act.put, List.setIfInBounds_toArray, List.set_cons_zero, List.set_cons_succ])
        | (refine wp_storeOb rfl 50 _ _ rfl _ _ rfl rfl _ _ OR.out rfl (by kernel_rfl) (by simp [Value.oneCell']) (fun W5 hW5 => ?_); try simp only [Act.put, List.setIfInBounds_toArray, List.set_cons_zero, List.set_cons_succ]; have OR5 := hid (OR.out.eq_all hW5 rfl); have QB5 := hid (QB.out.eq_all hW5 (Or.inr (by simp))); clear hW5))
      have r0 := OR5.out.cell 0; have r1 := OR5.out.cell 1; have r2 := OR5.out.cell 2; have r3 := OR5.out.cell 3; have r4 := OR5.out.cell 4
      exact bodyPost_ret (v := .tuple #[.agg #[.int .i64 pr, .int .u32 fr, .int .i64 0, .int .u32 to, .int .i64 0], .int .i64 0]) (by simp [results, Try.results25, go_sem, *]) rfl ⟨by rw [HFP.out, HTP.out], QB5.out⟩
end Go.Proofs.Ytekanilgeigddaa.ip
