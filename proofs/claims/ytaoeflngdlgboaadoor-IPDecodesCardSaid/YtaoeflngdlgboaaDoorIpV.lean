/-
  Chapter 6 (ipv4): what a header's fields are, by a walk of the text. Conditions: none but those typed.
-/
import Derived.Test.YtaoeflngdlgboaaDoorIpH
import Derived.Test.YtaoeflngdlgboaaDoorRdr
import Derived.Test.YtaoeflngdlgboaaDoorStc
namespace Go.Proofs.YtaoeflngdlgboaaDoor.ip
set_option linter.unusedVariables false
set_option linter.unusedSimpArgs false
open Go.ChangeShapes Go.WideShapes Go.ChangeAt Go.RowKit Go.IntWalk Go.Lib
set_option maxRecDepth 100000 in
set_option maxHeartbeats 20000000 in
theorem fields1 (w : World) (A : Option Addr) (n c : Nat) (l : List Int) (sv pid B b13 lf pr fr to : Int) (wh mo : Bool) (hl : Rd .u8 w A n l) (hc0 : A = none → c = 0) (h20 : 20 ≤ n) (hn : n ≤ 70000)
    (e1 : rdr.num ((l.drop 1).take 1) = sv) (e2 : rdr.num ((l.drop 4).take 2) = pid) (e3 : rdr.num ((l.drop 6).take 2) = B) (e4 : rdr.num ((l.drop 8).take 1) = lf) (e5 : rdr.num ((l.drop 9).take 1) = pr) (e6 : rdr.num ((l.drop 12).take 4) = fr) (e7 : rdr.num ((l.drop 16).take 4) = to)
    (hwh : (bits .and .i64 B 16384 != 0) = wh) (hmo : (bits .and .i64 B 8192 != 0) = mo) (hb13 : bits .and .i64 B 8191 = b13) (hbb : 0 ≤ b13 ∧ b13 ≤ 8191) :
    Calls Tryd.prog 31 #[.slice A n c] w fun x w' => ∃ v, x = .returned (.tuple #[.agg #[.int .i64 sv, .int .i64 pid, .bool wh, .bool mo, .int .i64 (b13 * 8), .int .i64 lf, .int .i64 pr, .int .u32 fr, .int .u32 to, v, .slice none 0 0], .int .i64 B]) ∧ Own .u8 5 w' w.heap.size v (l.drop 20) ∧ Only [] w w' := by
  have E1 := hid e1; have E2 := hid e2; have E3 := hid e3; have E4 := hid e4; have E5 := hid e5; have E6 := hid e6; have E7 := hid e7
  clear e1 e2 e3 e4 e5 e6 e7
  have HWH := hid hwh; have HMO := hid hmo; have HB13 := hid hb13
  clear hwh hmo hb13
  have OR : Hid (Ob (w.alloc (.cells #[.int .i64 0, .int .i64 0, .bool false, .bool false, .int .i64 0, .int .i64 0, .int .i64 0, .int .u32 0, .int .u32 0, .slice none 0 0, .slice none 0 0] 26)) w.heap.size 26 #[.int .i64 0, .int .i64 0, .bool false, .bool false, .int .i64 0, .int .i64 0, .int .i64 0, .int .u32 0, .int .u32 0, .slice none 0 0, .slice none 0 0]) := hid (Ob.new _ _ _)
  have QB : Hid (Only [] w (w.alloc (.cells #[.int .i64 0, .int .i64 0, .bool false, .bool false, .int .i64 0, .int .i64 0, .int .i64 0, .int .u32 0, .int .u32 0, .slice none 0 0, .slice none 0 0] 26))) := hid ((Only.refl [] w).alloc _)
  have HLen := hid hl.len
  have HC := hid hc0
  clear hc0
  have HL := hid (hl.alloc (.cells #[.int .i64 0, .int .i64 0, .bool false, .bool false, .int .i64 0, .int .i64 0, .int .i64 0, .int .u32 0, .int .u32 0, .slice none 0 0, .slice none 0 0] 26))
  clear hl
  go_enter Tryd.func31, Tryd.ntmps31
  go_wp2_with fail
  refine (rdr.new1 _ _ n c l HL.out HC.out (by omega)).mono ?_
  rintro x1 w4 ⟨r, e, p, rfl, h5, o4⟩
  have hl3 := OR.out.lt
  have OR := hid (OR.out.only o4 (by simp)); have QB := hid (QB.out.trans o4); clear o4
  have RD := hid h5; clear h5
  have hlow := RD.out.lows
  obtain ⟨hlo1, hlo2, hlo3, hlo4⟩ := hlow
  have hw3 := QB.out.size
  have hz4 : w4.heap.size ≤ w4.heap.size := Nat.le_refl _
  go_wp2_with fail
  refine (rdr.byte_ok _ _ _ r e p l RD.out (by rw [HLen.out]; omega)).mono ?_
  rintro x1 w5 ⟨rfl, h5, o5⟩
  have RD := hid (show rdr.Rdr w5 _ _ r e p 0 (l.drop 1) from by simpa [List.drop_drop] using h5); have OR := hid (OR.out.only o5 (by simp; omega)); have QB := hid (QB.out.fresh o5 (by simp; omega)); have hz4 := Nat.le_trans hz4 o5.size
  clear h5 o5
  have O13 : Hid (Ob (w5.alloc (.cells #[.int .i64 0, .int .i64 0, .bool false, .bool false, .int .i64 0, .int .i64 0, .int .i64 0, .int .u32 0, .int .u32 0, .slice none 0 0, .slice none 0 0] 26)) w5.heap.size 26 #[.int .i64 0, .int .i64 0, .bool false, .bool false, .int .i64 0, .int .i64 0, .int .i64 0, .int .u32 0, .int .u32 0, .slice none 0 0, .slice none 0 0]) := hid (Ob.new _ _ _)
  have hl8 := OR.out.lt
  have hlow := RD.out.lows
  obtain ⟨_, _, hlo5, hlo6⟩ := hlow
  have RD := hid (RD.out.only_nil ((Only.refl [] _).alloc (.cells #[.int .i64 0, .int .i64 0, .bool false, .bool false, .int .i64 0, .int .i64 0, .int .i64 0, .int .u32 0, .int .u32 0, .slice none 0 0, .slice none 0 0] 26))); have OR := hid (OR.out.alloc (.cells #[.int .i64 0, .int .i64 0, .bool false, .bool false, .int .i64 0, .int .i64 0, .int .i64 0, .int .u32 0, .int .u32 0, .slice none 0 0, .slice none 0 0] 26)); have QB := hid (QB.out.alloc (.cells #[.int .i64 0, .int .i64 0, .bool false, .bool false, .int .i64 0, .int .i64 0, .int .i64 0, .int .u32 0, .int .u32 0, .slice none 0 0, .slice none 0 0] 26))
  have hz8 := hz4
  have hz4 : w4.heap.size ≤ (w5.alloc (.cells #[.int .i64 0, .int .i64 0, .bool false, .bool false, .int .i64 0, .int .i64 0, .int .i64 0, .int .u32 0, .int .u32 0, .slice none 0 0, .slice none 0 0] 26)).heap.size := by simp; omega
  go_wp2_with fail
  refine (rdr.byte_ok _ _ _ r e p (l.drop 1) RD.out (by simp; rw [HLen.out]; omega)).mono ?_
  rintro x1 w6 ⟨rfl, h6, o6⟩
  rw [E1.out]
  have RD := hid (show rdr.Rdr w6 _ _ r e p 0 (l.drop 2) from by simpa [List.drop_drop] using h6); have OR := hid (OR.out.only o6 (by simp; omega)); have QB := hid (QB.out.fresh o6 (by simp; omega)); have hz4 := Nat.le_trans hz4 o6.size
  have O13 := hid (O13.out.only o6 (by simp; omega))
  clear h6 o6
  have q0 := O13.out.cell 0; have q1 := O13.out.frozen 0
  have RD := hid (RD.out.only ((Only.refl [w5.heap.size] w6).setCell (p := ⟨w5.heap.size, 0, none⟩) (Or.inl (by simp)) (.int .i64 sv)) (by simp; omega)); have OR := hid (OR.out.far (p := ⟨w5.heap.size, 0, none⟩) (by simp; omega) (.int .i64 sv)); have QB := hid (QB.out.setCell (p := ⟨w5.heap.size, 0, none⟩) (Or.inr (by simp; omega)) (.int .i64 sv)); have hz4 : w4.heap.size ≤ (w6.setCell ⟨w5.heap.size, 0, none⟩ (.int .i64 sv)).heap.size := by simp; omega
  have O13 : Hid (Ob _ w5.heap.size 26 #[.int .i64 sv, .int .i64 0, .bool false, .bool false, .int .i64 0, .int .i64 0, .int .i64 0, .int .u32 0, .int .u32 0, .slice none 0 0, .slice none 0 0]) := hid (O13.out.set 0 (.int .i64 sv))
  go_wp2_with fail
  clear q0 q1
  refine (rdr.two_ok _ _ _ r e p (l.drop 2) RD.out (by simp; rw [HLen.out]; omega)).mono ?_
  rintro x1 w7 ⟨rfl, h7, o7⟩
  have RD := hid (show rdr.Rdr w7 _ _ r e p 0 (l.drop 4) from by simpa [List.drop_drop] using h7); have OR := hid (OR.out.only o7 (by simp; omega)); have QB := hid (QB.out.fresh o7 (by simp; omega)); have hz4 := Nat.le_trans hz4 o7.size
  have O13 := hid (O13.out.only o7 (by simp; omega))
  clear h7 o7
  go_wp2_with fail
  refine (rdr.two_ok _ _ _ r e p (l.drop 4) RD.out (by simp; rw [HLen.out]; omega)).mono ?_
  rintro x1 w8 ⟨rfl, h8, o8⟩
  rw [E2.out]
  have RD := hid (show rdr.Rdr w8 _ _ r e p 0 (l.drop 6) from by simpa [List.drop_drop] using h8); have OR := hid (OR.out.only o8 (by simp; omega)); have QB := hid (QB.out.fresh o8 (by simp; omega)); have hz4 := Nat.le_trans hz4 o8.size
  have O13 := hid (O13.out.only o8 (by simp; omega))
  clear h8 o8
  have q2 := O13.out.cell 1; have q3 := O13.out.frozen 1
  have RD := hid (RD.out.only ((Only.refl [w5.heap.size] w8).setCell (p := ⟨w5.heap.size, 1, none⟩) (Or.inl (by simp)) (.int .i64 pid)) (by simp; omega)); have OR := hid (OR.out.far (p := ⟨w5.heap.size, 1, none⟩) (by simp; omega) (.int .i64 pid)); have QB := hid (QB.out.setCell (p := ⟨w5.heap.size, 1, none⟩) (Or.inr (by simp; omega)) (.int .i64 pid)); have hz4 : w4.heap.size ≤ (w8.setCell ⟨w5.heap.size, 1, none⟩ (.int .i64 pid)).heap.size := by simp; omega
  have O13 : Hid (Ob _ w5.heap.size 26 #[.int .i64 sv, .int .i64 pid, .bool false, .bool false, .int .i64 0, .int .i64 0, .int .i64 0, .int .u32 0, .int .u32 0, .slice none 0 0, .slice none 0 0]) := hid (O13.out.set 1 (.int .i64 pid))
  go_wp2_with fail
  clear q2 q3
  refine (rdr.two_ok _ _ _ r e p (l.drop 6) RD.out (by simp; rw [HLen.out]; omega)).mono ?_
  rintro x1 w9 ⟨rfl, h9, o9⟩
  rw [E3.out]
  have RD := hid (show rdr.Rdr w9 _ _ r e p 0 (l.drop 8) from by simpa [List.drop_drop] using h9); have OR := hid (OR.out.only o9 (by simp; omega)); have QB := hid (QB.out.fresh o9 (by simp; omega)); have hz4 := Nat.le_trans hz4 o9.size
  have O13 := hid (O13.out.only o9 (by simp; omega))
  clear h9 o9
  have q4 := O13.out.cell 2; have q5 := O13.out.frozen 2
  have q6 := O13.out.cell 3; have q7 := O13.out.frozen 3
  have q8 := O13.out.cell 4; have q9 := O13.out.frozen 4
  have RD := hid (RD.out.only ((((Only.refl [w5.heap.size] w9).setCell (p := ⟨w5.heap.size, 2, none⟩) (Or.inl (by simp)) (.bool wh)).setCell (p := ⟨w5.heap.size, 3, none⟩) (Or.inl (by simp)) (.bool mo)).setCell (p := ⟨w5.heap.size, 4, none⟩) (Or.inl (by simp)) (.int .i64 (b13 * 8))) (by simp; omega)); have OR := hid (((OR.out.far (p := ⟨w5.heap.size, 2, none⟩) (by simp; omega) (.bool wh)).far (p := ⟨w5.heap.size, 3, none⟩) (by simp; omega) (.bool mo)).far (p := ⟨w5.heap.size, 4, none⟩) (by simp; omega) (.int .i64 (b13 * 8))); have QB := hid (((QB.out.setCell (p := ⟨w5.heap.size, 2, none⟩) (Or.inr (by simp; omega)) (.bool wh)).setCell (p := ⟨w5.heap.size, 3, none⟩) (Or.inr (by simp; omega)) (.bool mo)).setCell (p := ⟨w5.heap.size, 4, none⟩) (Or.inr (by simp; omega)) (.int .i64 (b13 * 8))); have hz4 : w4.heap.size ≤ (((w9.setCell ⟨w5.heap.size, 2, none⟩ (.bool wh)).setCell ⟨w5.heap.size, 3, none⟩ (.bool mo)).setCell ⟨w5.heap.size, 4, none⟩ (.int .i64 (b13 * 8))).heap.size := by simp; omega
  have O13 : Hid (Ob _ w5.heap.size 26 #[.int .i64 sv, .int .i64 pid, .bool wh, .bool mo, .int .i64 (b13 * 8), .int .i64 0, .int .i64 0, .int .u32 0, .int .u32 0, .slice none 0 0, .slice none 0 0]) := hid (((O13.out.set 2 (.bool wh)).set 3 (.bool mo)).set 4 (.int .i64 (b13 * 8)))
  have hwh := HWH.out; have hmo := HMO.out; have hb13 := HB13.out
  go_wp2_with fail
  clear q4 q5 q6 q7 q8 q9 hwh hmo hb13
  refine (rdr.byte_ok _ _ _ r e p (l.drop 8) RD.out (by simp; rw [HLen.out]; omega)).mono ?_
  rintro x1 w10 ⟨rfl, h10, o10⟩
  rw [E4.out]
  have RD := hid (show rdr.Rdr w10 _ _ r e p 0 (l.drop 9) from by simpa [List.drop_drop] using h10); have OR := hid (OR.out.only o10 (by simp; omega)); have QB := hid (QB.out.fresh o10 (by simp; omega)); have hz4 := Nat.le_trans hz4 o10.size
  have O13 := hid (O13.out.only o10 (by simp; omega))
  clear h10 o10
  have q10 := O13.out.cell 5; have q11 := O13.out.frozen 5
  have RD := hid (RD.out.only ((Only.refl [w5.heap.size] w10).setCell (p := ⟨w5.heap.size, 5, none⟩) (Or.inl (by simp)) (.int .i64 lf)) (by simp; omega)); have OR := hid (OR.out.far (p := ⟨w5.heap.size, 5, none⟩) (by simp; omega) (.int .i64 lf)); have QB := hid (QB.out.setCell (p := ⟨w5.heap.size, 5, none⟩) (Or.inr (by simp; omega)) (.int .i64 lf)); have hz4 : w4.heap.size ≤ (w10.setCell ⟨w5.heap.size, 5, none⟩ (.int .i64 lf)).heap.size := by simp; omega
  have O13 : Hid (Ob _ w5.heap.size 26 #[.int .i64 sv, .int .i64 pid, .bool wh, .bool mo, .int .i64 (b13 * 8), .int .i64 lf, .int .i64 0, .int .u32 0, .int .u32 0, .slice none 0 0, .slice none 0 0]) := hid (O13.out.set 5 (.int .i64 lf))
  go_wp2_with fail
  clear q10 q11
  refine (rdr.byte_ok _ _ _ r e p (l.drop 9) RD.out (by simp; rw [HLen.out]; omega)).mono ?_
  rintro x1 w11 ⟨rfl, h11, o11⟩
  rw [E5.out]
  have RD := hid (show rdr.Rdr w11 _ _ r e p 0 (l.drop 10) from by simpa [List.drop_drop] using h11); have OR := hid (OR.out.only o11 (by simp; omega)); have QB := hid (QB.out.fresh o11 (by simp; omega)); have hz4 := Nat.le_trans hz4 o11.size
  have O13 := hid (O13.out.only o11 (by simp; omega))
  clear h11 o11
  have q12 := O13.out.cell 6; have q13 := O13.out.frozen 6
  have RD := hid (RD.out.only ((Only.refl [w5.heap.size] w11).setCell (p := ⟨w5.heap.size, 6, none⟩) (Or.inl (by simp)) (.int .i64 pr)) (by simp; omega)); have OR := hid (OR.out.far (p := ⟨w5.heap.size, 6, none⟩) (by simp; omega) (.int .i64 pr)); have QB := hid (QB.out.setCell (p := ⟨w5.heap.size, 6, none⟩) (Or.inr (by simp; omega)) (.int .i64 pr)); have hz4 : w4.heap.size ≤ (w11.setCell ⟨w5.heap.size, 6, none⟩ (.int .i64 pr)).heap.size := by simp; omega
  have O13 : Hid (Ob _ w5.heap.size 26 #[.int .i64 sv, .int .i64 pid, .bool wh, .bool mo, .int .i64 (b13 * 8), .int .i64 lf, .int .i64 pr, .int .u32 0, .int .u32 0, .slice none 0 0, .slice none 0 0]) := hid (O13.out.set 6 (.int .i64 pr))
  go_wp2_with fail
  clear q12 q13
  refine (rdr.two_ok _ _ _ r e p (l.drop 10) RD.out (by simp; rw [HLen.out]; omega)).mono ?_
  rintro x1 w12 ⟨rfl, h12, o12⟩
  have RD := hid (show rdr.Rdr w12 _ _ r e p 0 (l.drop 12) from by simpa [List.drop_drop] using h12); have OR := hid (OR.out.only o12 (by simp; omega)); have QB := hid (QB.out.fresh o12 (by simp; omega)); have hz4 := Nat.le_trans hz4 o12.size
  have O13 := hid (O13.out.only o12 (by simp; omega))
  clear h12 o12
  go_wp2_with fail
  refine (rdr.four_ok _ _ _ r e p (l.drop 12) RD.out (by simp; rw [HLen.out]; omega)).mono ?_
  rintro x1 w13 ⟨rfl, h13, o13⟩
  rw [E6.out]
  have RD := hid (show rdr.Rdr w13 _ _ r e p 0 (l.drop 16) from by simpa [List.drop_drop] using h13); have OR := hid (OR.out.only o13 (by simp; omega)); have QB := hid (QB.out.fresh o13 (by simp; omega)); have hz4 := Nat.le_trans hz4 o13.size
  have O13 := hid (O13.out.only o13 (by simp; omega))
  clear h13 o13
  have q14 := O13.out.cell 7; have q15 := O13.out.frozen 7
  have RD := hid (RD.out.only ((Only.refl [w5.heap.size] w13).setCell (p := ⟨w5.heap.size, 7, none⟩) (Or.inl (by simp)) (.int .u32 fr)) (by simp; omega)); have OR := hid (OR.out.far (p := ⟨w5.heap.size, 7, none⟩) (by simp; omega) (.int .u32 fr)); have QB := hid (QB.out.setCell (p := ⟨w5.heap.size, 7, none⟩) (Or.inr (by simp; omega)) (.int .u32 fr)); have hz4 : w4.heap.size ≤ (w13.setCell ⟨w5.heap.size, 7, none⟩ (.int .u32 fr)).heap.size := by simp; omega
  have O13 : Hid (Ob _ w5.heap.size 26 #[.int .i64 sv, .int .i64 pid, .bool wh, .bool mo, .int .i64 (b13 * 8), .int .i64 lf, .int .i64 pr, .int .u32 fr, .int .u32 0, .slice none 0 0, .slice none 0 0]) := hid (O13.out.set 7 (.int .u32 fr))
  go_wp2_with fail
  clear q14 q15
  refine (rdr.four_ok _ _ _ r e p (l.drop 16) RD.out (by simp; rw [HLen.out]; omega)).mono ?_
  rintro x1 w14 ⟨rfl, h14, o14⟩
  rw [E7.out]
  have RD := hid (show rdr.Rdr w14 _ _ r e p 0 (l.drop 20) from by simpa [List.drop_drop] using h14); have OR := hid (OR.out.only o14 (by simp; omega)); have QB := hid (QB.out.fresh o14 (by simp; omega)); have hz4 := Nat.le_trans hz4 o14.size
  have O13 := hid (O13.out.only o14 (by simp; omega))
  clear h14 o14
  have q16 := O13.out.cell 8; have q17 := O13.out.frozen 8
  have RD := hid (RD.out.only ((Only.refl [w5.heap.size] w14).setCell (p := ⟨w5.heap.size, 8, none⟩) (Or.inl (by simp)) (.int .u32 to)) (by simp; omega)); have OR := hid (OR.out.far (p := ⟨w5.heap.size, 8, none⟩) (by simp; omega) (.int .u32 to)); have QB := hid (QB.out.setCell (p := ⟨w5.heap.size, 8, none⟩) (Or.inr (by simp; omega)) (.int .u32 to)); have hz4 : w4.heap.size ≤ (w14.setCell ⟨w5.heap.size, 8, none⟩ (.int .u32 to)).heap.size := by simp; omega
  have O13 : Hid (Ob _ w5.heap.size 26 #[.int .i64 sv, .int .i64 pid, .bool wh, .bool mo, .int .i64 (b13 * 8), .int .i64 lf, .int .i64 pr, .int .u32 fr, .int .u32 to, .slice none 0 0, .slice none 0 0]) := hid (O13.out.set 8 (.int .u32 to))
  go_wp2_with fail
  clear q16 q17
  refine (rdr.left_ok _ _ _ r e p (l.drop 20) RD.out).mono ?_
  rintro x1 w15 ⟨rfl, h15, o15⟩
  have RD := hid (show rdr.Rdr w15 _ _ r e p 0 (l.drop 20) from by simpa [List.drop_drop] using h15); have OR := hid (OR.out.only o15 (by simp; omega)); have QB := hid (QB.out.fresh o15 (by simp; omega)); have hz4 := Nat.le_trans hz4 o15.size
  have O13 := hid (O13.out.only o15 (by simp; omega))
  clear h15 o15
  have hlen : ((l.drop 20).length : Int) = ((n - 20 : Nat) : Int) := by simp; rw [HLen.out]; try omega
  rw [hlen]
  clear hlen
  have hl13 := O13.out.lt; have hl13' := OR.out.lt
  go_wp2_with fail
  refine (rdr.raw_ok _ _ _ r e p (l.drop 20) ((n - 20 : Nat) : Int) (n - 20) RD.out rfl (by simp; rw [HLen.out]; omega) (by omega)).mono ?_
  rintro x1 w16 ⟨v1, rfl, hv1, h16, o16⟩
  have RD := hid (show rdr.Rdr w16 _ _ r e p 0 (l.drop n) from by have h := h16; rw [List.drop_drop, show 20 + (n - 20) = n from by omega] at h; exact h); have OR := hid (OR.out.only o16 (by simp; omega)); have QB0 := QB.out.size; have QB := hid (QB.out.fresh o16 (by simp; omega)); have hz4 := Nat.le_trans hz4 o16.size
  have O13 := hid (O13.out.only o16 (by simp; omega))
  have V1 : Hid (Own .u8 5 w16 w15.heap.size v1 (l.drop 20)) := hid (by
    have h := hv1
    rwa [List.take_of_length_le (by simp; rw [HLen.out]; omega)] at h)
  clear hv1 h16 o16
  obtain ⟨A1, cap1, ev1, _, _, _, _⟩ := V1.out.slice
  simp only [List.length_drop] at ev1
  subst ev1
  have q0 := O13.out.cell 9; have q1 := O13.out.frozen 9
  have O14 : Hid (Ob (w16.setCell ⟨w5.heap.size, 9, none⟩ (.slice A1 (l.length - 20) cap1)) w5.heap.size 26 #[.int .i64 sv, .int .i64 pid, .bool wh, .bool mo, .int .i64 (b13 * 8), .int .i64 lf, .int .i64 pr, .int .u32 fr, .int .u32 to, .slice A1 (l.length - 20) cap1, .slice none 0 0]) := hid (O13.out.set 9 _)
  have ORx := hid (OR.out.far (p := ⟨w5.heap.size, 9, none⟩) (by simp; omega) (.slice A1 (l.length - 20) cap1))
  have QBx := hid (QB.out.setCell (p := ⟨w5.heap.size, 9, none⟩) (Or.inr (by simp; omega)) (.slice A1 (l.length - 20) cap1))
  have V2 := hid (V1.out.only ((Only.refl [w5.heap.size] w16).setCell (p := ⟨w5.heap.size, 9, none⟩) (Or.inl (by simp)) (.slice A1 (l.length - 20) cap1)) (fun k hk hm => by have := (V1.out.lt k hk).1; simp at hm; omega))
  clear OR QB O13
  go_wp2_with (first
    | (refine wp_loadOb rfl 26 _ rfl _ rfl _ _ O14.out Tryd.underlying26 rfl (by kernel_rfl) ?_; try simp only [Act.put, List.setIfInBounds_toArray, List.set_cons_zero, List.set_cons_succ])
    | (refine wp_storeOb rfl 26 _ _ rfl _ _ rfl rfl _ _ ORx.out rfl (by kernel_rfl) (by simp [Value.oneCell']) (fun W5 hW5 => ?_); try simp only [Act.put, List.setIfInBounds_toArray, List.set_cons_zero, List.set_cons_succ]; have OR5 := hid (ORx.out.eq_all hW5 rfl); have QB5 := hid (QBx.out.eq_all hW5 (Or.inr (by simp))); have V5 := hid (V2.out.only (Only.eq_all (Only.refl [w.heap.size] _) hW5 (Or.inl (by simp))) (fun k hk hm => by have := (V2.out.lt k hk).1; simp at hm; omega)); clear hW5))
  have r0 := OR5.out.cell 0; have r1 := OR5.out.cell 1; have r2 := OR5.out.cell 2; have r3 := OR5.out.cell 3; have r4 := OR5.out.cell 4; have r5 := OR5.out.cell 5; have r6 := OR5.out.cell 6; have r7 := OR5.out.cell 7; have r8 := OR5.out.cell 8; have r9 := OR5.out.cell 9; have r10 := OR5.out.cell 10
  exact bodyPost_ret (v := .tuple #[.agg #[.int .i64 sv, .int .i64 pid, .bool wh, .bool mo, .int .i64 (b13 * 8), .int .i64 lf, .int .i64 pr, .int .u32 fr, .int .u32 to, .slice A1 (l.length - 20) cap1, .slice none 0 0], .int .i64 B]) (by simp [results, Tryd.results31, go_sem, *]) rfl ⟨_, rfl, V5.out.mono_base (by omega), QB5.out⟩
end Go.Proofs.YtaoeflngdlgboaaDoor.ip
