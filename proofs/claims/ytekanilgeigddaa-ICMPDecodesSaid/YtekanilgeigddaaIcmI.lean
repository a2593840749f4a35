/-
  Chapter 9 (icmp): Decode, by a walk of its text. Conditions: none but those typed.
-/
import Derived.Test.YtekanilgeigddaaIcmA
import Derived.Test.YtekanilgeigddaaRdr
import Derived.Test.YtekanilgeigddaaRef9
import Derived.Test.YtekanilgeigddaaHlp9
namespace Go.Proofs.Ytekanilgeigddaa.icm
set_option linter.unusedVariables false
set_option linter.unusedSimpArgs false
open Go.ChangeShapes Go.WideShapes Go.ChangeAt Go.RowKit Go.IntWalk Go.Lib
/-- What Decode answers: type, code, rest, data, and an error's number. -/
inductive DecOf (l : List Int) : Int → Int → Int → List Int → Int → Prop
  | short (h : l.length < 8) : DecOf l 0 0 0 [] 2
  | sum (h : 8 ≤ l.length) (hs : oct.sumF l ≠ 0) : DecOf l 0 0 0 [] 4
  | ok (h : 8 ≤ l.length) (hs : oct.sumF l = 0) : DecOf l (l.getD 0 0) (l.getD 1 0) (ref.get4 l 4) (l.drop 8) 0
theorem decOf_any (l : List Int) : ∃ ty co re ls er, DecOf l ty co re ls er := by
  by_cases h : l.length < 8
  · exact ⟨_, _, _, _, _, .short h⟩
  · by_cases hs : oct.sumF l = 0
    · exact ⟨_, _, _, _, _, .ok (by omega) hs⟩
    · exact ⟨_, _, _, _, _, .sum (by omega) hs⟩
theorem getD_at (l : List Int) (i : Nat) (h : i < l.length) : l.getD i 0 = l[i] := by simp [List.getD_eq_getElem?_getD, h]
theorem take_one (l : List Int) (i : Nat) (h : i < l.length) : (l.drop i).take 1 = [l.getD i 0] := by
  rw [List.drop_eq_getElem_cons h, getD_at l _ h]; rfl
theorem num_one (l : List Int) (i : Nat) (h : i < l.length) : rdr.num ((l.drop i).take 1) = l.getD i 0 := by
  rw [take_one l i h]; simp [rdr.num]
theorem take_four (l : List Int) (i : Nat) (h : i + 3 < l.length) : (l.drop i).take 4 = [l.getD i 0, l.getD (i + 1) 0, l.getD (i + 2) 0, l.getD (i + 3) 0] := by
  rw [List.drop_eq_getElem_cons (by omega), List.drop_eq_getElem_cons (show i + 1 < l.length by omega), List.drop_eq_getElem_cons (show i + 1 + 1 < l.length by omega), List.drop_eq_getElem_cons (show i + 1 + 1 + 1 < l.length by omega)]
  rw [getD_at l _ (show i < l.length by omega), getD_at l _ (show i + 1 < l.length by omega), getD_at l _ (show i + 2 < l.length by omega), getD_at l _ (show i + 3 < l.length by omega)]
  rfl
theorem num_four (l : List Int) (i : Nat) (h : i + 3 < l.length) : rdr.num ((l.drop i).take 4) = ref.get4 l i := by
  rw [take_four l i h]; simp [rdr.num, ref.get4]; omega
set_option maxHeartbeats 4000000 in
theorem decodeOk0 (w : World) (A : Option Addr) (n c : Nat) (l : List Int) (x0 x1 x4 : Int) (N0 : Hid (rdr.num ((l.drop 0).take 1) = x0)) (N1 : Hid (rdr.num ((l.drop 1).take 1) = x1)) (N4 : Hid (rdr.num ((l.drop 4).take 4) = x4)) (hl : Rd .u8 w A n l) (hc0 : A = none → c = 0) (hn : n ≤ 70000) (h8 : 8 ≤ l.length) (hs : oct.sumF l = 0) :
    Calls Try.prog 17 #[.slice A n c] w fun x w' => ∃ v, x = .returned (.tuple #[.agg #[.int .i64 x0, .int .i64 x1, .int .u32 x4, v], .int .i64 0]) ∧ Own .u8 5 w' w.heap.size v (l.drop 8) ∧ Only [] w w' := by
  have HLen := hid hl.len
  have h8' : 8 ≤ n := by rw [← HLen.out]; exact h8
  have HL := hid hl; clear hl
  have HC := hid hc0; clear hc0
  have HS := hid hs; clear hs
  have H8 := hid h8; clear h8
  have HDn : Hid (∀ i, (l.drop i).length = l.length - i) := hid (fun i => by simp)
  have OR : Hid (Ob (w.alloc (.cells #[.int .i64 0, .int .i64 0, .int .u32 0, .slice none 0 0] 25)) w.heap.size 25 #[.int .i64 0, .int .i64 0, .int .u32 0, .slice none 0 0]) := hid (Ob.new _ _ _)
  have QB : Hid (Only [] w (w.alloc (.cells #[.int .i64 0, .int .i64 0, .int .u32 0, .slice none 0 0] 25))) := hid ((Only.refl [] w).alloc _)
  go_enter Try.func17, Try.ntmps17
  go_wp2_with fail
  refine (oct.sum1 _ A n c l (HL.out.only_nil QB.out) (by omega)).mono ?_
  rintro x w1 ⟨rfl, m1, rfl⟩
  rw [HS.out]
  go_wp2_with fail
  refine (rdr.new1 _ A n c l ((HL.out.only_nil QB.out).drewN _) HC.out (by omega)).mono ?_
  rintro x w2 ⟨r, e, p, rfl, hr, o2⟩
  have hlt2 : w.heap.size + 1 ≤ w2.heap.size := by have := o2.size; simp at this; omega
  generalize htop : w2.heap.size = top at *
  have HTop := hid htop; clear htop
  have R2 := hid hr
  have OR := hid (Ob.only (OR.out.drewN m1) o2 (by simp)); have QB := hid ((QB.out.drewN m1).trans o2); clear hr o2
  go_wp2_with fail
  refine (rdr.byte_ok _ _ _ _ _ _ l R2.out (by have := H8.out; omega)).mono ?_
  rintro x w3 ⟨rfl, hr3, o3⟩
  have n0 := N0.out
  rw [List.drop_zero] at n0
  rw [n0]
  have LO := hid R2.out.lows
  have lo := LO.out
  simp only [World.drewN] at lo
  have hlow : Hid (∀ i ∈ [e, p], w.heap.size + 1 ≤ i) := hid (by intro i hi; simp at hi; simp at lo; omega)
  have R3 := hid hr3; have S3 := o3.size
  have OR := hid (OR.out.only o3 (by intro h; have := hlow.out _ h; omega)); have QB := hid (QB.out.fresh o3 (fun i hi => .inr (by have := hlow.out i hi; omega)))
  clear hr3 o3 n0 lo
  go_wp2_with fail
  refine (rdr.byte_ok _ _ _ _ _ _ _ R3.out (by rw [HDn.out]; have := H8.out; omega)).mono ?_
  rintro x w4 ⟨rfl, hr4, o4⟩
  rw [N1.out]
  rw [List.drop_drop] at hr4
  have R4 := hid hr4; have S4 := o4.size
  have OR := hid (OR.out.only o4 (by intro h; have := hlow.out _ h; omega)); have QB := hid (QB.out.fresh o4 (fun i hi => .inr (by have := hlow.out i hi; omega)))
  clear hr4 o4
  go_wp2_with fail
  have htop4 : top ≤ w4.heap.size := by have := HTop.out; omega
  have O5 : Hid (Ob (w4.alloc (.cells #[.int .i64 x0, .int .i64 x1, .int .u32 0, .slice none 0 0] 25)) w4.heap.size 25 #[.int .i64 x0, .int .i64 x1, .int .u32 0, .slice none 0 0]) := hid (Ob.new _ _ _)
  have hgw : w.heap.size + 1 ≤ w4.heap.size := by have := HTop.out; omega
  have R4 := hid (R4.out.only_nil ((Only.refl [] w4).alloc (.cells #[.int .i64 x0, .int .i64 x1, .int .u32 0, .slice none 0 0] 25)))
  have OR := hid (OR.out.alloc (.cells #[.int .i64 x0, .int .i64 x1, .int .u32 0, .slice none 0 0] 25)); have QB := hid (QB.out.alloc (.cells #[.int .i64 x0, .int .i64 x1, .int .u32 0, .slice none 0 0] 25))
  have hlow5 : Hid (w4.heap.size ∉ [e, p]) := hid (by have := LO.out; simp only [List.mem_cons, List.not_mem_nil, or_false]; have := HTop.out; omega)
  refine (rdr.two_ok _ _ _ _ _ _ _ R4.out (by rw [HDn.out]; have := H8.out; omega)).mono ?_
  rintro x w5 ⟨rfl, hr5, o5⟩
  rw [List.drop_drop] at hr5
  have R5 := hid hr5
  have O5 := hid (O5.out.only o5 hlow5.out)
  have OR := hid (OR.out.only o5 (by intro h; have := hlow.out _ h; omega)); have QB := hid (QB.out.fresh o5 (fun i hi => .inr (by have := hlow.out i hi; omega)))
  clear hr5 o5
  go_wp2_with fail
  refine (rdr.four_ok _ _ _ _ _ _ _ R5.out (by rw [HDn.out]; have := H8.out; omega)).mono ?_
  rintro x w6 ⟨rfl, hr6, o6⟩
  rw [N4.out]
  rw [List.drop_drop] at hr6
  have R6 := hid hr6
  have O6 := hid (O5.out.only o6 hlow5.out)
  have OR := hid (OR.out.only o6 (by intro h; have := hlow.out _ h; omega)); have QB := hid (QB.out.fresh o6 (fun i hi => .inr (by have := hlow.out i hi; omega)))
  clear hr6 o6
  have k2 := O6.out.cell 2
  have f2 := O6.out.frozen 2
  go_wp2_with fail
  clear k2 f2
  have O7 := hid (O6.out.set 2 (.int .u32 x4))
  have R6 : Hid (rdr.Rdr w6 _ top r e p 0 (l.drop 8)) := hid R6.out
  have R7 := hid (R6.out.only ((Only.refl [w4.heap.size] w6).setCell (p := ⟨w4.heap.size, 2, none⟩) (Or.inl (by simp)) (.int .u32 x4)) (by intro i hi; simp at hi; omega))
  have OR := hid (OR.out.far (p := ⟨w4.heap.size, 2, none⟩) (by simp; omega) (.int .u32 x4)); have QB := hid (QB.out.setCell (p := ⟨w4.heap.size, 2, none⟩) (Or.inr (by simp; omega)) (.int .u32 x4))
  refine (rdr.left_ok _ _ _ _ _ _ _ R7.out).mono ?_
  rintro x w8 ⟨rfl, hr8, o8⟩
  have R8 : Hid (rdr.Rdr w8 _ top r e p 0 (l.drop 8)) := hid hr8
  have O8 := hid (O7.out.only o8 hlow5.out)
  have OR := hid (OR.out.only o8 (by intro h; have := hlow.out _ h; omega)); have QB := hid (QB.out.fresh o8 (fun i hi => .inr (by have := hlow.out i hi; omega)))
  clear hr8 o8
  go_wp2_with fail
  refine (rdr.raw_ok _ _ _ _ _ _ _ _ (l.length - 8) R8.out (by first | rfl | simp) (by rw [HDn.out]; exact Nat.le_refl _) (by rw [HLen.out]; omega)).mono ?_
  rintro x w9 ⟨v, rfl, hv, hr9, o9⟩
  rw [List.take_of_length_le (by rw [HDn.out]; exact Nat.le_refl _)] at hv
  obtain ⟨A9, cap9, ev9, _, _, _, _⟩ := hv.slice
  have V9 := hid hv
  have O9 := hid (O8.out.only o9 hlow5.out)
  have OR := hid (OR.out.only o9 (by intro h; have := hlow.out _ h; omega)); have S9 := QB.out.size; have QB := hid (QB.out.fresh o9 (fun i hi => .inr (by have := hlow.out i hi; omega)))
  clear hr9 o9 hv
  subst ev9
  have k3 := O9.out.cell 3
  have f3 := O9.out.frozen 3
  have k0 := O9.out.cell 0
  have k1 := O9.out.cell 1
  have k2 := O9.out.cell 2
  have j0 := OR.out.cell 0
  have j1 := OR.out.cell 1
  have j2 := OR.out.cell 2
  have j3 := OR.out.cell 3
  have i0 := OR.out.frozen 0
  have i1 := OR.out.frozen 1
  have i2 := OR.out.frozen 2
  have i3 := OR.out.frozen 3
  go_wp2
  have n1 : ¬ w4.heap.size = w.heap.size := by omega
  have n2 : ¬ w.heap.size = w4.heap.size := by omega
  have hout : Only [] w (((((w9.setCell ⟨w4.heap.size, 3, none⟩ (.slice A9 (l.length - 8) cap9)).setCell ⟨w.heap.size, 0, none⟩ (.int .i64 x0)).setCell ⟨w.heap.size, 1, none⟩ (.int .i64 x1)).setCell ⟨w.heap.size, 2, none⟩ (.int .u32 x4)).setCell ⟨w.heap.size, 3, none⟩ (.slice A9 (l.length - 8) cap9)) := by
    refine Only.setCell ?_ (Or.inr (by simp)) _
    refine Only.setCell ?_ (Or.inr (by simp)) _
    refine Only.setCell ?_ (Or.inr (by simp)) _
    refine Only.setCell ?_ (Or.inr (by simp)) _
    exact QB.out.setCell (Or.inr (by simp; omega)) _
  have hz : ∀ g, (Value.slice A9 (l.length - 8) cap9).ownBlock = some g → g ∉ [w4.heap.size, w.heap.size] := by
    intro g hg
    have h8 := V9.out.lt
    rw [HDn.out] at h8
    have h9 := h8 g hg
    have := O8.out.lt
    simp
    omega
  have hown : Own .u8 5 (((((w9.setCell ⟨w4.heap.size, 3, none⟩ (.slice A9 (l.length - 8) cap9)).setCell ⟨w.heap.size, 0, none⟩ (.int .i64 x0)).setCell ⟨w.heap.size, 1, none⟩ (.int .i64 x1)).setCell ⟨w.heap.size, 2, none⟩ (.int .u32 x4)).setCell ⟨w.heap.size, 3, none⟩ (.slice A9 (l.length - 8) cap9)) w.heap.size (.slice A9 (l.length - 8) cap9) (l.drop 8) := by
    have h0 : Own .u8 5 w9 w.heap.size (.slice A9 (l.length - 8) cap9) (l.drop 8) := by rw [← HDn.out]; exact V9.out.mono_base (by omega)
    refine h0.only (S := [w4.heap.size, w.heap.size]) ?_ hz
    refine Only.setCell ?_ (Or.inl (by simp)) _
    refine Only.setCell ?_ (Or.inl (by simp)) _
    refine Only.setCell ?_ (Or.inl (by simp)) _
    refine Only.setCell ?_ (Or.inl (by simp)) _
    exact (Only.refl _ w9).setCell (Or.inl (by simp)) _
  exact bodyPost_ret (v := .tuple #[.agg #[.int .i64 x0, .int .i64 x1, .int .u32 x4, .slice A9 (l.length - 8) cap9], .int .i64 0]) (by simp [results, Try.results17, go_sem, j0, j1, j2, j3, n1, n2]) rfl ⟨_, rfl, hown, hout⟩
set_option maxHeartbeats 1000000 in
theorem decodeShort (w : World) (A : Option Addr) (n c : Nat) (hn : n < 8) :
    Calls Try.prog 17 #[.slice A n c] w fun x w' => ∃ v, x = .returned (.tuple #[.agg #[.int .i64 0, .int .i64 0, .int .u32 0, v], .int .i64 2]) ∧ Own .u8 5 w' w.heap.size v [] ∧ Only [] w w' := by
  go_enter Try.func17, Try.ntmps17
  go_wp2
  exact bodyPost_ret (v := .tuple #[.agg #[.int .i64 0, .int .i64 0, .int .u32 0, .slice none 0 0], .int .i64 2]) (by simp [results, Try.results17, go_sem]) rfl ⟨_, rfl, Own.nil _ _ _ _, by repeat (first | exact Only.refl _ _ | refine Only.setCell ?_ (Or.inr (by simp)) _ | refine Only.alloc ?_ _)⟩
set_option maxHeartbeats 1000000 in
theorem decodeSum (w : World) (A : Option Addr) (n c : Nat) (l : List Int) (hl : Rd .u8 w A n l) (hn : ¬ n < 8) (hn2 : n ≤ 70000) (hs : oct.sumF l ≠ 0) :
    Calls Try.prog 17 #[.slice A n c] w fun x w' => ∃ v, x = .returned (.tuple #[.agg #[.int .i64 0, .int .i64 0, .int .u32 0, v], .int .i64 4]) ∧ Own .u8 5 w' w.heap.size v [] ∧ Only [] w w' := by
  have HL := hid hl; clear hl
  go_enter Try.func17, Try.ntmps17
  go_wp2_with fail
  refine (oct.sum1 _ A n c l (HL.out.alloc _) (by omega)).mono ?_
  rintro x w1 ⟨rfl, m1, rfl⟩
  generalize oct.sumF l = s at *
  go_wp2
  exact bodyPost_ret (v := .tuple #[.agg #[.int .i64 0, .int .i64 0, .int .u32 0, .slice none 0 0], .int .i64 4]) (by simp [results, Try.results17, go_sem]) rfl ⟨_, rfl, Own.nil _ _ _ _, by repeat (first | exact Only.refl _ _ | refine Only.drewN ?_ _ | refine Only.setCell ?_ (Or.inr (by simp)) _ | refine Only.alloc ?_ _)⟩
set_option maxHeartbeats 1000000 in
theorem rdecodeShort (w : World) (A : Option Addr) (n c : Nat) (hn : n < 8) :
    Calls Try.prog 18 #[.slice A n c] w fun x w' => ∃ v, x = .returned (.tuple #[.agg #[.int .i64 0, .int .i64 0, .int .u32 0, v], .int .i64 2]) ∧ Own .u8 5 w' w.heap.size v [] ∧ Only [] w w' := by
  go_enter Try.func18, Try.ntmps18
  go_wp2
  exact bodyPost_ret (v := .tuple #[.agg #[.int .i64 0, .int .i64 0, .int .u32 0, .slice none 0 0], .int .i64 2]) (by simp [results, Try.results18, go_sem]) rfl ⟨_, rfl, Own.nil _ _ _ _, by repeat (first | exact Only.refl _ _ | refine Only.setCell ?_ (Or.inr (by simp)) _ | refine Only.alloc ?_ _)⟩
set_option maxHeartbeats 1000000 in
theorem rdecodeSum (w : World) (A : Option Addr) (n c : Nat) (l : List Int) (hl : Rd .u8 w A n l) (hn : ¬ n < 8) (hn2 : n ≤ 70000) (hs : oct.sumF l ≠ 0) :
    Calls Try.prog 18 #[.slice A n c] w fun x w' => ∃ v, x = .returned (.tuple #[.agg #[.int .i64 0, .int .i64 0, .int .u32 0, v], .int .i64 4]) ∧ Own .u8 5 w' w.heap.size v [] ∧ Only [] w w' := by
  have HL := hid hl; clear hl
  go_enter Try.func18, Try.ntmps18
  go_wp2_with fail
  refine (oct.sum2 _ A n c l (HL.out.alloc _) (by omega)).mono ?_
  rintro x w1 ⟨rfl, m1, rfl⟩
  generalize oct.sumF l = s at *
  go_wp2
  exact bodyPost_ret (v := .tuple #[.agg #[.int .i64 0, .int .i64 0, .int .u32 0, .slice none 0 0], .int .i64 4]) (by simp [results, Try.results18, go_sem]) rfl ⟨_, rfl, Own.nil _ _ _ _, by repeat (first | exact Only.refl _ _ | refine Only.drewN ?_ _ | refine Only.setCell ?_ (Or.inr (by simp)) _ | refine Only.alloc ?_ _)⟩
end Go.Proofs.Ytekanilgeigddaa.icm
