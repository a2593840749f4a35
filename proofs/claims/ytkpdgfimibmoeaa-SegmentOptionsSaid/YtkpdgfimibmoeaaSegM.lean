/-
  Chapter 14 (segment): bytes whose sum is wrong are refused by Decode, by a walk of its text. Conditions: none but those typed.
-/
import Derived.Test.YtkpdgfimibmoeaaSegE
import Derived.Test.YtkpdgfimibmoeaaStc
import Derived.Test.YtkpdgfimibmoeaaTrn14
import Derived.Test.YtkpdgfimibmoeaaArg
namespace Go.Proofs.Ytkpdgfimibmoeaa.seg
set_option linter.unusedVariables false
set_option linter.unusedSimpArgs false
open Go.ChangeShapes Go.WideShapes Go.ChangeAt Go.RowKit Go.IntWalk Go.Lib
/-- The error of bytes whose sum is wrong. -/
def dErr (n : Nat) (x : Int) : Int := if 65515 < n then 5 else if n < 20 then 2 else if x / 16 * 4 < 20 then 3 else if (n : Int) < x / 16 * 4 then 2 else 4
theorem dErr_ne (n : Nat) (x : Int) : dErr n x ≠ 0 := by unfold dErr; repeat' split
                                                         all_goals decide
theorem dErr_4 (n : Nat) (x : Int) (h1 : 20 ≤ n) (h2 : n ≤ 65515) (h3 : 20 ≤ x / 16 * 4) (h4 : x / 16 * 4 ≤ n) : dErr n x = 4 := by
  unfold dErr
  rw [if_neg (by omega), if_neg (by omega), if_neg (by omega), if_neg (by omega)]
set_option maxHeartbeats 4000000 in
theorem dec5 (w : World) (fr to : Int) (A : Option Addr) (n c : Nat) (l : List Int) (hl : Rd .u8 w A n l) (hc0 : A = none → c = 0) (hn : n ≤ 70000) (h : 65515 < n) :
    Calls Try.prog 16 #[.int .u32 fr, .int .u32 to, .slice A n c] w fun x w' => x = .returned (.tuple #[.agg #[.int .u32 0, .int .i64 0, .int .u32 0, .int .i64 0, .int .u32 0, .int .u32 0, .int .i64 0, .int .i64 0, .int .i64 0, .int .i64 0, .slice none 0 0], .int .i64 (dErr n (l.getD 12 0))]) ∧ Only [] w w' := by
  have OR : Hid (Ob (w.alloc (.cells #[.int .u32 0, .int .i64 0, .int .u32 0, .int .i64 0, .int .u32 0, .int .u32 0, .int .i64 0, .int .i64 0, .int .i64 0, .int .i64 0, .slice none 0 0] 26)) w.heap.size 26 #[.int .u32 0, .int .i64 0, .int .u32 0, .int .i64 0, .int .u32 0, .int .u32 0, .int .i64 0, .int .i64 0, .int .i64 0, .int .i64 0, .slice none 0 0]) := hid (Ob.new _ _ _)
  have QB : Hid (Only [] w (w.alloc (.cells #[.int .u32 0, .int .i64 0, .int .u32 0, .int .i64 0, .int .u32 0, .int .u32 0, .int .i64 0, .int .i64 0, .int .i64 0, .int .i64 0, .slice none 0 0] 26))) := hid ((Only.refl [] w).alloc _)
  have HC := hid hc0; clear hc0
  have HE : Hid (dErr n (l.getD 12 0) = 5) := hid (by unfold dErr; rw [if_pos h])
  clear hl
  go_enter Try.func16, Try.ntmps16
  go_wp2_with (refine wp_storeOb rfl 26 _ _ rfl _ _ rfl rfl _ _ OR.out rfl (by kernel_rfl) (by simp [Value.oneCell']) (fun W5 hW5 => ?_); try simp only [Act.put, List.setIfInBounds_toArray, List.set_cons_zero, List.set_cons_succ]; have OR5 := hid (OR.out.eq_all hW5 rfl); have QB5 := hid (QB.out.eq_all hW5 (Or.inr (by simp))); clear hW5)
  have r0 := OR5.out.cell 0; have r1 := OR5.out.cell 1; have r2 := OR5.out.cell 2; have r3 := OR5.out.cell 3; have r4 := OR5.out.cell 4; have r5 := OR5.out.cell 5; have r6 := OR5.out.cell 6; have r7 := OR5.out.cell 7; have r8 := OR5.out.cell 8; have r9 := OR5.out.cell 9; have r10 := OR5.out.cell 10
  exact bodyPost_ret (v := .tuple #[.agg #[.int .u32 0, .int .i64 0, .int .u32 0, .int .i64 0, .int .u32 0, .int .u32 0, .int .i64 0, .int .i64 0, .int .i64 0, .int .i64 0, .slice none 0 0], .int .i64 5]) (by simp [results, Try.results16, go_sem, *]) rfl ⟨by rw [HE.out], QB5.out⟩
set_option maxHeartbeats 4000000 in
theorem dec2 (w : World) (fr to : Int) (A : Option Addr) (n c : Nat) (l : List Int) (hl : Rd .u8 w A n l) (hc0 : A = none → c = 0) (hn : n ≤ 70000) (h : n < 20) :
    Calls Try.prog 16 #[.int .u32 fr, .int .u32 to, .slice A n c] w fun x w' => x = .returned (.tuple #[.agg #[.int .u32 0, .int .i64 0, .int .u32 0, .int .i64 0, .int .u32 0, .int .u32 0, .int .i64 0, .int .i64 0, .int .i64 0, .int .i64 0, .slice none 0 0], .int .i64 (dErr n (l.getD 12 0))]) ∧ Only [] w w' := by
  have OR : Hid (Ob (w.alloc (.cells #[.int .u32 0, .int .i64 0, .int .u32 0, .int .i64 0, .int .u32 0, .int .u32 0, .int .i64 0, .int .i64 0, .int .i64 0, .int .i64 0, .slice none 0 0] 26)) w.heap.size 26 #[.int .u32 0, .int .i64 0, .int .u32 0, .int .i64 0, .int .u32 0, .int .u32 0, .int .i64 0, .int .i64 0, .int .i64 0, .int .i64 0, .slice none 0 0]) := hid (Ob.new _ _ _)
  have QB : Hid (Only [] w (w.alloc (.cells #[.int .u32 0, .int .i64 0, .int .u32 0, .int .i64 0, .int .u32 0, .int .u32 0, .int .i64 0, .int .i64 0, .int .i64 0, .int .i64 0, .slice none 0 0] 26))) := hid ((Only.refl [] w).alloc _)
  have HC := hid hc0; clear hc0
  have HE : Hid (dErr n (l.getD 12 0) = 2) := hid (by unfold dErr; rw [if_neg (by omega), if_pos h])
  have h1 : ¬ 65515 < n := by omega
  clear hl
  go_enter Try.func16, Try.ntmps16
  go_wp2_with (refine wp_storeOb rfl 26 _ _ rfl _ _ rfl rfl _ _ OR.out rfl (by kernel_rfl) (by simp [Value.oneCell']) (fun W5 hW5 => ?_); try simp only [Act.put, List.setIfInBounds_toArray, List.set_cons_zero, List.set_cons_succ]; have OR5 := hid (OR.out.eq_all hW5 rfl); have QB5 := hid (QB.out.eq_all hW5 (Or.inr (by simp))); clear hW5)
  have r0 := OR5.out.cell 0; have r1 := OR5.out.cell 1; have r2 := OR5.out.cell 2; have r3 := OR5.out.cell 3; have r4 := OR5.out.cell 4; have r5 := OR5.out.cell 5; have r6 := OR5.out.cell 6; have r7 := OR5.out.cell 7; have r8 := OR5.out.cell 8; have r9 := OR5.out.cell 9; have r10 := OR5.out.cell 10
  exact bodyPost_ret (v := .tuple #[.agg #[.int .u32 0, .int .i64 0, .int .u32 0, .int .i64 0, .int .u32 0, .int .u32 0, .int .i64 0, .int .i64 0, .int .i64 0, .int .i64 0, .slice none 0 0], .int .i64 2]) (by simp [results, Try.results16, go_sem, *]) rfl ⟨by rw [HE.out], QB5.out⟩
set_option maxHeartbeats 4000000 in
theorem dec3 (w : World) (fr to : Int) (A : Option Addr) (n c : Nat) (l : List Int) (hl : Rd .u8 w A n l) (hc0 : A = none → c = 0) (hn : n ≤ 70000) (hA : 20 ≤ n) (hB : n ≤ 65515) (h : l.getD 12 0 / 16 * 4 < 20) :
    Calls Try.prog 16 #[.int .u32 fr, .int .u32 to, .slice A n c] w fun x w' => x = .returned (.tuple #[.agg #[.int .u32 0, .int .i64 0, .int .u32 0, .int .i64 0, .int .u32 0, .int .u32 0, .int .i64 0, .int .i64 0, .int .i64 0, .int .i64 0, .slice none 0 0], .int .i64 (dErr n (l.getD 12 0))]) ∧ Only [] w w' := by
  have OR : Hid (Ob (w.alloc (.cells #[.int .u32 0, .int .i64 0, .int .u32 0, .int .i64 0, .int .u32 0, .int .u32 0, .int .i64 0, .int .i64 0, .int .i64 0, .int .i64 0, .slice none 0 0] 26)) w.heap.size 26 #[.int .u32 0, .int .i64 0, .int .u32 0, .int .i64 0, .int .u32 0, .int .u32 0, .int .i64 0, .int .i64 0, .int .i64 0, .int .i64 0, .slice none 0 0]) := hid (Ob.new _ _ _)
  have QB : Hid (Only [] w (w.alloc (.cells #[.int .u32 0, .int .i64 0, .int .u32 0, .int .i64 0, .int .u32 0, .int .u32 0, .int .i64 0, .int .i64 0, .int .i64 0, .int .i64 0, .slice none 0 0] 26))) := hid ((Only.refl [] w).alloc _)
  have HC := hid hc0; clear hc0
  have HL := hid (hl.alloc (.cells #[.int .u32 0, .int .i64 0, .int .u32 0, .int .i64 0, .int .u32 0, .int .u32 0, .int .i64 0, .int .i64 0, .int .i64 0, .int .i64 0, .slice none 0 0] 26))
  obtain ⟨b, off, rfl, hb, hc⟩ := HL.out.at_ (by omega)
  have c12 := hc 12 (by omega)
  have w12 := u8Bd (hl.getD_wf 12 (by omega))
  have h1 : ¬ 65515 < n := by omega
  have h2 : ¬ n < 20 := by omega
  have hi12 : (12 : Int) < n := by omega
  clear hc hb
  have HE : Hid (dErr n (l.getD 12 0) = 3) := hid (by unfold dErr; rw [if_neg (by omega), if_neg (by omega), if_pos h])
  clear hl
  generalize l.getD 12 0 = x at *
  go_enter Try.func16, Try.ntmps16
  go_wp2_with (refine wp_storeOb rfl 26 _ _ rfl _ _ rfl rfl _ _ OR.out rfl (by kernel_rfl) (by simp [Value.oneCell']) (fun W5 hW5 => ?_); try simp only [Act.put, List.setIfInBounds_toArray, List.set_cons_zero, List.set_cons_succ]; have OR5 := hid (OR.out.eq_all hW5 rfl); have QB5 := hid (QB.out.eq_all hW5 (Or.inr (by simp))); clear hW5)
  have r0 := OR5.out.cell 0; have r1 := OR5.out.cell 1; have r2 := OR5.out.cell 2; have r3 := OR5.out.cell 3; have r4 := OR5.out.cell 4; have r5 := OR5.out.cell 5; have r6 := OR5.out.cell 6; have r7 := OR5.out.cell 7; have r8 := OR5.out.cell 8; have r9 := OR5.out.cell 9; have r10 := OR5.out.cell 10
  exact bodyPost_ret (v := .tuple #[.agg #[.int .u32 0, .int .i64 0, .int .u32 0, .int .i64 0, .int .u32 0, .int .u32 0, .int .i64 0, .int .i64 0, .int .i64 0, .int .i64 0, .slice none 0 0], .int .i64 3]) (by simp [results, Try.results16, go_sem, *]) rfl ⟨by rw [HE.out], QB5.out⟩
set_option maxHeartbeats 4000000 in
theorem dec2b (w : World) (fr to : Int) (A : Option Addr) (n c : Nat) (l : List Int) (hl : Rd .u8 w A n l) (hc0 : A = none → c = 0) (hn : n ≤ 70000) (hA : 20 ≤ n) (hB : n ≤ 65515) (hC : 20 ≤ l.getD 12 0 / 16 * 4) (h : (n : Int) < l.getD 12 0 / 16 * 4) :
    Calls Try.prog 16 #[.int .u32 fr, .int .u32 to, .slice A n c] w fun x w' => x = .returned (.tuple #[.agg #[.int .u32 0, .int .i64 0, .int .u32 0, .int .i64 0, .int .u32 0, .int .u32 0, .int .i64 0, .int .i64 0, .int .i64 0, .int .i64 0, .slice none 0 0], .int .i64 (dErr n (l.getD 12 0))]) ∧ Only [] w w' := by
  have OR : Hid (Ob (w.alloc (.cells #[.int .u32 0, .int .i64 0, .int .u32 0, .int .i64 0, .int .u32 0, .int .u32 0, .int .i64 0, .int .i64 0, .int .i64 0, .int .i64 0, .slice none 0 0] 26)) w.heap.size 26 #[.int .u32 0, .int .i64 0, .int .u32 0, .int .i64 0, .int .u32 0, .int .u32 0, .int .i64 0, .int .i64 0, .int .i64 0, .int .i64 0, .slice none 0 0]) := hid (Ob.new _ _ _)
  have QB : Hid (Only [] w (w.alloc (.cells #[.int .u32 0, .int .i64 0, .int .u32 0, .int .i64 0, .int .u32 0, .int .u32 0, .int .i64 0, .int .i64 0, .int .i64 0, .int .i64 0, .slice none 0 0] 26))) := hid ((Only.refl [] w).alloc _)
  have HC := hid hc0; clear hc0
  have HL := hid (hl.alloc (.cells #[.int .u32 0, .int .i64 0, .int .u32 0, .int .i64 0, .int .u32 0, .int .u32 0, .int .i64 0, .int .i64 0, .int .i64 0, .int .i64 0, .slice none 0 0] 26))
  obtain ⟨b, off, rfl, hb, hc⟩ := HL.out.at_ (by omega)
  have c12 := hc 12 (by omega)
  have w12 := u8Bd (hl.getD_wf 12 (by omega))
  have h1 : ¬ 65515 < n := by omega
  have h2 : ¬ n < 20 := by omega
  have hi12 : (12 : Int) < n := by omega
  clear hc hb
  have HE : Hid (dErr n (l.getD 12 0) = 2) := hid (by unfold dErr; rw [if_neg (by omega), if_neg (by omega), if_neg (by omega), if_pos h])
  clear hl
  generalize l.getD 12 0 = x at *
  have h3 : ¬ x / 16 * 4 < 20 := by omega
  go_enter Try.func16, Try.ntmps16
  go_wp2_with (refine wp_storeOb rfl 26 _ _ rfl _ _ rfl rfl _ _ OR.out rfl (by kernel_rfl) (by simp [Value.oneCell']) (fun W5 hW5 => ?_); try simp only [Act.put, List.setIfInBounds_toArray, List.set_cons_zero, List.set_cons_succ]; have OR5 := hid (OR.out.eq_all hW5 rfl); have QB5 := hid (QB.out.eq_all hW5 (Or.inr (by simp))); clear hW5)
  have r0 := OR5.out.cell 0; have r1 := OR5.out.cell 1; have r2 := OR5.out.cell 2; have r3 := OR5.out.cell 3; have r4 := OR5.out.cell 4; have r5 := OR5.out.cell 5; have r6 := OR5.out.cell 6; have r7 := OR5.out.cell 7; have r8 := OR5.out.cell 8; have r9 := OR5.out.cell 9; have r10 := OR5.out.cell 10
  exact bodyPost_ret (v := .tuple #[.agg #[.int .u32 0, .int .i64 0, .int .u32 0, .int .i64 0, .int .u32 0, .int .u32 0, .int .i64 0, .int .i64 0, .int .i64 0, .int .i64 0, .slice none 0 0], .int .i64 2]) (by simp [results, Try.results16, go_sem, *]) rfl ⟨by rw [HE.out], QB5.out⟩
set_option maxHeartbeats 4000000 in
theorem dec4 (w : World) (fr to : Int) (A : Option Addr) (n c : Nat) (l : List Int) (hl : Rd .u8 w A n l) (hc0 : A = none → c = 0) (hn : n ≤ 70000) (hA : 20 ≤ n) (hB : n ≤ 65515) (hC : 20 ≤ l.getD 12 0 / 16 * 4) (hD : l.getD 12 0 / 16 * 4 ≤ n) (hs : oct.sumF (psd fr to 6 n ++ l) ≠ 0) :
    Calls Try.prog 16 #[.int .u32 fr, .int .u32 to, .slice A n c] w fun x w' => x = .returned (.tuple #[.agg #[.int .u32 0, .int .i64 0, .int .u32 0, .int .i64 0, .int .u32 0, .int .u32 0, .int .i64 0, .int .i64 0, .int .i64 0, .int .i64 0, .slice none 0 0], .int .i64 (dErr n (l.getD 12 0))]) ∧ Only [] w w' := by
  have OR : Hid (Ob (w.alloc (.cells #[.int .u32 0, .int .i64 0, .int .u32 0, .int .i64 0, .int .u32 0, .int .u32 0, .int .i64 0, .int .i64 0, .int .i64 0, .int .i64 0, .slice none 0 0] 26)) w.heap.size 26 #[.int .u32 0, .int .i64 0, .int .u32 0, .int .i64 0, .int .u32 0, .int .u32 0, .int .i64 0, .int .i64 0, .int .i64 0, .int .i64 0, .slice none 0 0]) := hid (Ob.new _ _ _)
  have QB : Hid (Only [] w (w.alloc (.cells #[.int .u32 0, .int .i64 0, .int .u32 0, .int .i64 0, .int .u32 0, .int .u32 0, .int .i64 0, .int .i64 0, .int .i64 0, .int .i64 0, .slice none 0 0] 26))) := hid ((Only.refl [] w).alloc _)
  have HC := hid hc0; clear hc0
  have HL := hid (hl.alloc (.cells #[.int .u32 0, .int .i64 0, .int .u32 0, .int .i64 0, .int .u32 0, .int .u32 0, .int .i64 0, .int .i64 0, .int .i64 0, .int .i64 0, .slice none 0 0] 26))
  obtain ⟨b, off, rfl, hb, hc⟩ := HL.out.at_ (by omega)
  have c12 := hc 12 (by omega)
  have w12 := u8Bd (hl.getD_wf 12 (by omega))
  have h1 : ¬ 65515 < n := by omega
  have h2 : ¬ n < 20 := by omega
  have hi12 : (12 : Int) < n := by omega
  clear hc hb
  have HE : Hid (dErr n (l.getD 12 0) = 4) := hid (dErr_4 n _ hA hB hC hD)
  have HS : Hid ((oct.sumF (psd fr to 6 n ++ l) != 0) = true) := hid (by simpa using hs)
  clear hl hs
  generalize hx : l.getD 12 0 = x at *
  clear hx
  have h3 : ¬ x / 16 * 4 < 20 := by omega
  have h4 : ¬ (n : Int) < x / 16 * 4 := by omega
  go_enter Try.func16, Try.ntmps16
  go_wp2_with fail
  refine (sums1 _ fr to _ n c l HL.out HC.out (by omega)).mono ?_
  rintro x1 w2 ⟨rfl, o2⟩
  have OR := hid (OR.out.only o2 (by simp)); have QB := hid (QB.out.trans o2); clear o2
  have hs := HS.out
  generalize oct.sumF (psd fr to 6 n ++ l) = sm at *
  go_wp2_with (refine wp_storeOb rfl 26 _ _ rfl _ _ rfl rfl _ _ OR.out rfl (by kernel_rfl) (by simp [Value.oneCell']) (fun W5 hW5 => ?_); try simp only [Act.put, List.setIfInBounds_toArray, List.set_cons_zero, List.set_cons_succ]; have OR5 := hid (OR.out.eq_all hW5 rfl); have QB5 := hid (QB.out.eq_all hW5 (Or.inr (by simp))); clear hW5)
  have r0 := OR5.out.cell 0; have r1 := OR5.out.cell 1; have r2 := OR5.out.cell 2; have r3 := OR5.out.cell 3; have r4 := OR5.out.cell 4; have r5 := OR5.out.cell 5; have r6 := OR5.out.cell 6; have r7 := OR5.out.cell 7; have r8 := OR5.out.cell 8; have r9 := OR5.out.cell 9; have r10 := OR5.out.cell 10
  exact bodyPost_ret (v := .tuple #[.agg #[.int .u32 0, .int .i64 0, .int .u32 0, .int .i64 0, .int .u32 0, .int .u32 0, .int .i64 0, .int .i64 0, .int .i64 0, .int .i64 0, .slice none 0 0], .int .i64 4]) (by simp [results, Try.results16, go_sem, *]) rfl ⟨by rw [HE.out], QB5.out⟩
set_option maxHeartbeats 4000000 in
theorem decBad (w : World) (fr to : Int) (A : Option Addr) (n c : Nat) (l : List Int) (hl : Rd .u8 w A n l) (hc0 : A = none → c = 0) (hn : n ≤ 70000) (hs : oct.sumF (psd fr to 6 n ++ l) ≠ 0) :
    Calls Try.prog 16 #[.int .u32 fr, .int .u32 to, .slice A n c] w fun x w' => x = .returned (.tuple #[.agg #[.int .u32 0, .int .i64 0, .int .u32 0, .int .i64 0, .int .u32 0, .int .u32 0, .int .i64 0, .int .i64 0, .int .i64 0, .int .i64 0, .slice none 0 0], .int .i64 (dErr n (l.getD 12 0))]) ∧ Only [] w w' := by
  have OR : Hid (Ob (w.alloc (.cells #[.int .u32 0, .int .i64 0, .int .u32 0, .int .i64 0, .int .u32 0, .int .u32 0, .int .i64 0, .int .i64 0, .int .i64 0, .int .i64 0, .slice none 0 0] 26)) w.heap.size 26 #[.int .u32 0, .int .i64 0, .int .u32 0, .int .i64 0, .int .u32 0, .int .u32 0, .int .i64 0, .int .i64 0, .int .i64 0, .int .i64 0, .slice none 0 0]) := hid (Ob.new _ _ _)
  have QB : Hid (Only [] w (w.alloc (.cells #[.int .u32 0, .int .i64 0, .int .u32 0, .int .i64 0, .int .u32 0, .int .u32 0, .int .i64 0, .int .i64 0, .int .i64 0, .int .i64 0, .slice none 0 0] 26))) := hid ((Only.refl [] w).alloc _)
  have HC := hid hc0; clear hc0
  clear OR QB
  have hc0 := HC.out
  by_cases h1 : 65515 < n
  · exact dec5 w fr to A n c l hl hc0 hn h1
  · by_cases h2 : n < 20
    · exact dec2 w fr to A n c l hl hc0 hn h2
    · by_cases h3 : l.getD 12 0 / 16 * 4 < 20
      · exact dec3 w fr to A n c l hl hc0 hn (by omega) (by omega) h3
      · by_cases h4 : (n : Int) < l.getD 12 0 / 16 * 4
        · exact dec2b w fr to A n c l hl hc0 hn (by omega) (by omega) (by omega) h4
        · exact dec4 w fr to A n c l hl hc0 hn (by omega) (by omega) (by omega) (by omega) hs
end Go.Proofs.Ytkpdgfimibmoeaa.seg
