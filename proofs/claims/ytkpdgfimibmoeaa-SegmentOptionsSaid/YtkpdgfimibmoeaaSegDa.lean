/-
  Chapter 14 (segment): what Decode says of any bytes whose sum is right, by a walk of its text. Conditions: none but those typed.
-/
import Derived.Test.YtkpdgfimibmoeaaSegOq
import Derived.Test.YtkpdgfimibmoeaaSegM
import Derived.Test.YtkpdgfimibmoeaaRdr
namespace Go.Proofs.Ytkpdgfimibmoeaa.seg
set_option linter.unusedVariables false
set_option linter.unusedSimpArgs false
open Go.ChangeShapes Go.WideShapes Go.ChangeAt Go.RowKit Go.IntWalk Go.Lib
theorem readNo (w : World) (A : Option Addr) (n c : Nat) (l : List Int) (hl : Rd .u8 w A n l) (hnc : n ≤ c) (hcm : c ≤ maxLen) (hn : n ≤ 100000) (hr : Rop 0 (-1) l none) :
    Calls Try.prog 33 #[.slice A n c] w fun e w' => e = .returned (.tuple #[.int .i64 0, .int .i64 0, .bool false]) ∧ ∃ q, w' = w.drewN q := readAny w A n c l none hl hnc hcm hn hr
theorem readYes (w : World) (A : Option Addr) (n c : Nat) (l : List Int) (m s : Int) (hl : Rd .u8 w A n l) (hnc : n ≤ c) (hcm : c ≤ maxLen) (hn : n ≤ 100000) (hr : Rop 0 (-1) l (some (m, s))) :
    Calls Try.prog 33 #[.slice A n c] w fun e w' => e = .returned (.tuple #[.int .i64 m, .int .i64 s, .bool true]) ∧ ∃ q, w' = w.drewN q := readAny w A n c l (some (m, s)) hl hnc hcm hn hr
set_option maxRecDepth 100000 in
set_option maxHeartbeats 20000000 in
theorem decNo (w : World) (fr to : Int) (A : Option Addr) (n c : Nat) (l : List Int) (o : Nat) (ho : o ≤ 40) (hl : Rd .u8 w A n l) (hc0 : A = none → c = 0) (hnc : n ≤ c) (hcm : c ≤ 9223372036854775807) (hA : 20 + o ≤ n) (hB : n ≤ 65515) (h12 : l.getD 12 0 / 16 * 4 = 20 + (o : Int))
    (hs : oct.sumF (psd fr to 6 n ++ l) = 0) (hr : Rop 0 (-1) ((l.drop 20).take o) none) :
    Calls Try.prog 16 #[.int .u32 fr, .int .u32 to, .slice A n c] w fun x w' => x = .returned (.tuple #[.agg #[.int .u32 0, .int .i64 0, .int .u32 0, .int .i64 0, .int .u32 0, .int .u32 0, .int .i64 0, .int .i64 0, .int .i64 0, .int .i64 0, .slice none 0 0], .int .i64 3]) ∧ Only [] w w' := by
  have OR : Hid (Ob (w.alloc (.cells #[.int .u32 0, .int .i64 0, .int .u32 0, .int .i64 0, .int .u32 0, .int .u32 0, .int .i64 0, .int .i64 0, .int .i64 0, .int .i64 0, .slice none 0 0] 26)) w.heap.size 26 #[.int .u32 0, .int .i64 0, .int .u32 0, .int .i64 0, .int .u32 0, .int .u32 0, .int .i64 0, .int .i64 0, .int .i64 0, .int .i64 0, .slice none 0 0]) := hid (Ob.new _ _ _)
  have QB : Hid (Only [] w (w.alloc (.cells #[.int .u32 0, .int .i64 0, .int .u32 0, .int .i64 0, .int .u32 0, .int .u32 0, .int .i64 0, .int .i64 0, .int .i64 0, .int .i64 0, .slice none 0 0] 26))) := hid ((Only.refl [] w).alloc _)
  have HLen := hid hl.len
  have HC := hid hc0; have HS := hid hs
  clear hc0 hs
  have HL := hid (hl.alloc (.cells #[.int .u32 0, .int .i64 0, .int .u32 0, .int .i64 0, .int .u32 0, .int .u32 0, .int .i64 0, .int .i64 0, .int .i64 0, .int .i64 0, .slice none 0 0] 26))
  obtain ⟨b, off, rfl, hb, hc⟩ := HL.out.at_ (by omega)
  have c12 := hc 12 (by omega)
  have w12 := u8Bd (hl.getD_wf 12 (by omega))
  generalize l.getD 12 0 = x at *
  have h1 : ¬ 65515 < n := by omega
  have h2 : ¬ n < 20 := by omega
  have hi12 : (12 : Int) < n := by omega
  have hC : 20 ≤ x / 16 * 4 := by omega
  have hD : x / 16 * 4 ≤ n := by omega
  have hhn : (20 : Int) + (o : Int) ≤ c := by omega
  have hsl : ∃ A' c', (∀ W : World, (Instr.slice 24 (.slice (some ⟨b, off, none⟩) n c) (some (.int .i64 20)) (some (.int .i64 (20 + (o : Int)))) none).run Try.prog W = .ok (.slice A' o c') W) ∧ Rd .u8 (w.alloc (.cells #[.int .u32 0, .int .i64 0, .int .u32 0, .int .i64 0, .int .u32 0, .int .u32 0, .int .i64 0, .int .i64 0, .int .i64 0, .int .i64 0, .slice none 0 0] 26)) A' o ((l.drop 20).take o) ∧ o ≤ c' ∧ c' ≤ maxLen := by
    have h0 := (HL.out.drop 20 (by omega)).take o (by omega)
    by_cases hce : c = 20
    · subst hce
      obtain rfl : o = 0 := by omega
      exact ⟨some ⟨b, off, none⟩, 0, fun W => by go_simp, Rd.nil _ _ _, by omega, by unfold maxLen; omega⟩
    · have h20 : (20 : Int) ≤ c := by omega
      have ho8 : (20 : Int) + (o : Int) ≤ c := by omega
      have hs1 : (0 : Int) ≤ 20 + (o : Int) := by omega
      have hs2 : (20 : Int) ≤ max (20 + (o : Int)) 0 := by omega
      have hs3 : ((20 : Int) + (o : Int)).toNat - 20 = o := by omega
      exact ⟨some ⟨b, off + 20, none⟩, c - 20, fun W => by go_simp, h0, by omega, by unfold maxLen; omega⟩
  obtain ⟨A', c', hsl, hrd, hc', hcm'⟩ := hsl
  have RO' := hid hrd
  clear hl hc hb hrd
  have H12 := hid h12; clear h12
  go_enter Try.func16, Try.ntmps16
  go_wp2_with fail
  refine (sums1 _ fr to _ n c l HL.out HC.out (by omega)).mono ?_
  rintro x1 w2 ⟨rfl, o2⟩
  rw [HS.out, H12.out]
  clear hC hD
  have HL := hid (HL.out.only_nil o2); have RO' := hid (RO'.out.only_nil o2); have OR := hid (OR.out.only o2 (by simp)); have QB := hid (QB.out.trans o2); clear o2
  clear c12
  go_wp2_with fail
  refine (callsOnly (readNo _ A' o c' _ RO'.out hc' hcm' (by omega) hr)).mono ?_
  rintro x1 w3 ⟨rfl, o3⟩
  have HL := hid (HL.out.only_nil o3); have OR := hid (OR.out.only o3 (by simp)); have QB := hid (QB.out.trans o3); clear o3 RO'
  go_wp2_with (refine wp_storeOb rfl 26 _ _ rfl _ _ rfl rfl _ _ OR.out rfl (by kernel_rfl) (by simp [Value.oneCell']) (fun W5 hW5 => ?_); try simp only [Act.put, List.setIfInBounds_toArray, List.set_cons_zero, List.set_cons_succ]; have OR5 := hid (OR.out.eq_all hW5 rfl); have QB5 := hid (QB.out.eq_all hW5 (Or.inr (by simp))); clear hW5)
  have r0 := OR5.out.cell 0; have r1 := OR5.out.cell 1; have r2 := OR5.out.cell 2; have r3 := OR5.out.cell 3; have r4 := OR5.out.cell 4; have r5 := OR5.out.cell 5; have r6 := OR5.out.cell 6; have r7 := OR5.out.cell 7; have r8 := OR5.out.cell 8; have r9 := OR5.out.cell 9; have r10 := OR5.out.cell 10
  exact bodyPost_ret (v := .tuple #[.agg #[.int .u32 0, .int .i64 0, .int .u32 0, .int .i64 0, .int .u32 0, .int .u32 0, .int .i64 0, .int .i64 0, .int .i64 0, .int .i64 0, .slice none 0 0], .int .i64 3]) (by simp [results, Try.results16, go_sem, *]) rfl ⟨rfl, QB5.out⟩
set_option maxRecDepth 100000 in
set_option maxHeartbeats 20000000 in
theorem decYes (w : World) (fr to : Int) (A : Option Addr) (n c : Nat) (l : List Int) (fp tp sq ac fl wi ms sc : Int) (o : Nat) (ho : o ≤ 40) (hl : Rd .u8 w A n l) (hc0 : A = none → c = 0) (hnc : n ≤ c) (hcm : c ≤ 9223372036854775807) (hA : 20 + o ≤ n) (hB : n ≤ 65515) (h12 : l.getD 12 0 / 16 * 4 = 20 + (o : Int))
    (hs : oct.sumF (psd fr to 6 n ++ l) = 0) (hr : Rop 0 (-1) ((l.drop 20).take o) (some (ms, sc)))
    (e1 : rdr.num (l.take 2) = fp) (e2 : rdr.num ((l.drop 2).take 2) = tp) (e3 : rdr.num ((l.drop 4).take 4) = sq) (e4 : rdr.num ((l.drop 8).take 4) = ac) (e5 : bits .and .i64 (rdr.num ((l.drop 13).take 1)) 63 = fl) (e6 : rdr.num ((l.drop 14).take 2) = wi) :
    Calls Try.prog 16 #[.int .u32 fr, .int .u32 to, .slice A n c] w fun x w' => ∃ v, x = .returned (.tuple #[.agg #[.int .u32 fr, .int .i64 fp, .int .u32 to, .int .i64 tp, .int .u32 sq, .int .u32 ac, .int .i64 fl, .int .i64 wi, .int .i64 ms, .int .i64 sc, v], .int .i64 0]) ∧ Own .u8 5 w' w.heap.size v (l.drop (20 + o)) ∧ Only [] w w' := by
  have E1 := hid e1; have E2 := hid e2; have E3 := hid e3; have E4 := hid e4; have E5 := hid e5; have E6 := hid e6
  clear e1 e2 e3 e4 e5 e6
  have OR : Hid (Ob (w.alloc (.cells #[.int .u32 0, .int .i64 0, .int .u32 0, .int .i64 0, .int .u32 0, .int .u32 0, .int .i64 0, .int .i64 0, .int .i64 0, .int .i64 0, .slice none 0 0] 26)) w.heap.size 26 #[.int .u32 0, .int .i64 0, .int .u32 0, .int .i64 0, .int .u32 0, .int .u32 0, .int .i64 0, .int .i64 0, .int .i64 0, .int .i64 0, .slice none 0 0]) := hid (Ob.new _ _ _)
  have QB : Hid (Only [] w (w.alloc (.cells #[.int .u32 0, .int .i64 0, .int .u32 0, .int .i64 0, .int .u32 0, .int .u32 0, .int .i64 0, .int .i64 0, .int .i64 0, .int .i64 0, .slice none 0 0] 26))) := hid ((Only.refl [] w).alloc _)
  have HLen := hid hl.len
  have HC := hid hc0; have HS := hid hs
  clear hc0 hs
  have HL := hid (hl.alloc (.cells #[.int .u32 0, .int .i64 0, .int .u32 0, .int .i64 0, .int .u32 0, .int .u32 0, .int .i64 0, .int .i64 0, .int .i64 0, .int .i64 0, .slice none 0 0] 26))
  obtain ⟨b, off, rfl, hb, hc⟩ := HL.out.at_ (by omega)
  have c12 := hc 12 (by omega)
  have w12 := u8Bd (hl.getD_wf 12 (by omega))
  generalize l.getD 12 0 = x at *
  have h1 : ¬ 65515 < n := by omega
  have h2 : ¬ n < 20 := by omega
  have hi12 : (12 : Int) < n := by omega
  have hC : 20 ≤ x / 16 * 4 := by omega
  have hD : x / 16 * 4 ≤ n := by omega
  have hhn : (20 : Int) + (o : Int) ≤ c := by omega
  have hsl : ∃ A' c', (∀ W : World, (Instr.slice 24 (.slice (some ⟨b, off, none⟩) n c) (some (.int .i64 20)) (some (.int .i64 (20 + (o : Int)))) none).run Try.prog W = .ok (.slice A' o c') W) ∧ Rd .u8 (w.alloc (.cells #[.int .u32 0, .int .i64 0, .int .u32 0, .int .i64 0, .int .u32 0, .int .u32 0, .int .i64 0, .int .i64 0, .int .i64 0, .int .i64 0, .slice none 0 0] 26)) A' o ((l.drop 20).take o) ∧ o ≤ c' ∧ c' ≤ maxLen := by
    have h0 := (HL.out.drop 20 (by omega)).take o (by omega)
    by_cases hce : c = 20
    · subst hce
      obtain rfl : o = 0 := by omega
      exact ⟨some ⟨b, off, none⟩, 0, fun W => by go_simp, Rd.nil _ _ _, by omega, by unfold maxLen; omega⟩
    · have h20 : (20 : Int) ≤ c := by omega
      have ho8 : (20 : Int) + (o : Int) ≤ c := by omega
      have hs1 : (0 : Int) ≤ 20 + (o : Int) := by omega
      have hs2 : (20 : Int) ≤ max (20 + (o : Int)) 0 := by omega
      have hs3 : ((20 : Int) + (o : Int)).toNat - 20 = o := by omega
      exact ⟨some ⟨b, off + 20, none⟩, c - 20, fun W => by go_simp, h0, by omega, by unfold maxLen; omega⟩
  obtain ⟨A', c', hsl, hrd, hc', hcm'⟩ := hsl
  have RO' := hid hrd
  clear hl hc hb hrd
  have H12 := hid h12; clear h12
  go_enter Try.func16, Try.ntmps16
  go_wp2_with fail
  refine (sums1 _ fr to _ n c l HL.out HC.out (by omega)).mono ?_
  rintro x1 w2 ⟨rfl, o2⟩
  rw [HS.out, H12.out]
  clear hC hD
  have HL := hid (HL.out.only_nil o2); have RO' := hid (RO'.out.only_nil o2); have OR := hid (OR.out.only o2 (by simp)); have QB := hid (QB.out.trans o2); clear o2
  clear c12
  go_wp2_with fail
  refine (callsOnly (readYes _ A' o c' _ ms sc RO'.out hc' hcm' (by omega) hr)).mono ?_
  rintro x1 w3 ⟨rfl, o3⟩
  have HL := hid (HL.out.only_nil o3); have OR := hid (OR.out.only o3 (by simp)); have QB := hid (QB.out.trans o3); clear o3 RO' hr
  go_wp2_with fail
  refine (rdr.new1 _ _ n c l HL.out HC.out (by omega)).mono ?_
  rintro x1 w4 ⟨r, e, p, rfl, h5, o4⟩
  have hl3 := OR.out.lt
  have OR := hid (OR.out.only o4 (by simp)); have QB := hid (QB.out.trans o4); clear o4
  have RD := hid h5; clear h5
  have hlow := RD.out.lows
  obtain ⟨hlo1, hlo2, hlo3, hlo4⟩ := hlow
  have hw3 := QB.out.size
  have hz4 : w4.heap.size ≤ w4.heap.size := Nat.le_refl _
  go_wp2_with fail
  refine (rdr.two_ok _ _ _ r e p l RD.out (by rw [HLen.out]; omega)).mono ?_
  rintro x1 w5 ⟨rfl, h5, o5⟩
  rw [E1.out]
  have RD := hid (show rdr.Rdr w5 _ _ r e p 0 (l.drop 2) from by simpa [List.drop_drop] using h5); have OR := hid (OR.out.only o5 (by simp; omega)); have QB := hid (QB.out.fresh o5 (by simp; omega)); have hz4 := Nat.le_trans hz4 o5.size
  clear h5 o5
  go_wp2_with fail
  refine (rdr.two_ok _ _ _ r e p (l.drop 2) RD.out (by simp; rw [HLen.out]; omega)).mono ?_
  rintro x1 w6 ⟨rfl, h6, o6⟩
  rw [E2.out]
  have RD := hid (show rdr.Rdr w6 _ _ r e p 0 (l.drop 4) from by simpa [List.drop_drop] using h6); have OR := hid (OR.out.only o6 (by simp; omega)); have QB := hid (QB.out.fresh o6 (by simp; omega)); have hz4 := Nat.le_trans hz4 o6.size
  clear h6 o6
  go_wp2_with fail
  refine (rdr.four_ok _ _ _ r e p (l.drop 4) RD.out (by simp; rw [HLen.out]; omega)).mono ?_
  rintro x1 w7 ⟨rfl, h7, o7⟩
  rw [E3.out]
  have RD := hid (show rdr.Rdr w7 _ _ r e p 0 (l.drop 8) from by simpa [List.drop_drop] using h7); have OR := hid (OR.out.only o7 (by simp; omega)); have QB := hid (QB.out.fresh o7 (by simp; omega)); have hz4 := Nat.le_trans hz4 o7.size
  clear h7 o7
  go_wp2_with fail
  refine (rdr.four_ok _ _ _ r e p (l.drop 8) RD.out (by simp; rw [HLen.out]; omega)).mono ?_
  rintro x1 w8 ⟨rfl, h8, o8⟩
  rw [E4.out]
  have RD := hid (show rdr.Rdr w8 _ _ r e p 0 (l.drop 12) from by simpa [List.drop_drop] using h8); have OR := hid (OR.out.only o8 (by simp; omega)); have QB := hid (QB.out.fresh o8 (by simp; omega)); have hz4 := Nat.le_trans hz4 o8.size
  clear h8 o8
  have O13 : Hid (Ob (w8.alloc (.cells #[.int .u32 fr, .int .i64 fp, .int .u32 to, .int .i64 tp, .int .u32 sq, .int .u32 ac, .int .i64 0, .int .i64 0, .int .i64 ms, .int .i64 sc, .slice none 0 0] 26)) w8.heap.size 26 #[.int .u32 fr, .int .i64 fp, .int .u32 to, .int .i64 tp, .int .u32 sq, .int .u32 ac, .int .i64 0, .int .i64 0, .int .i64 ms, .int .i64 sc, .slice none 0 0]) := hid (Ob.new _ _ _)
  have hl8 := OR.out.lt
  have hlow := RD.out.lows
  obtain ⟨_, _, hlo5, hlo6⟩ := hlow
  have RD := hid (RD.out.only_nil ((Only.refl [] _).alloc (.cells #[.int .u32 fr, .int .i64 fp, .int .u32 to, .int .i64 tp, .int .u32 sq, .int .u32 ac, .int .i64 0, .int .i64 0, .int .i64 ms, .int .i64 sc, .slice none 0 0] 26))); have OR := hid (OR.out.alloc (.cells #[.int .u32 fr, .int .i64 fp, .int .u32 to, .int .i64 tp, .int .u32 sq, .int .u32 ac, .int .i64 0, .int .i64 0, .int .i64 ms, .int .i64 sc, .slice none 0 0] 26)); have QB := hid (QB.out.alloc (.cells #[.int .u32 fr, .int .i64 fp, .int .u32 to, .int .i64 tp, .int .u32 sq, .int .u32 ac, .int .i64 0, .int .i64 0, .int .i64 ms, .int .i64 sc, .slice none 0 0] 26))
  have hz8 := hz4
  have hz4 : w4.heap.size ≤ (w8.alloc (.cells #[.int .u32 fr, .int .i64 fp, .int .u32 to, .int .i64 tp, .int .u32 sq, .int .u32 ac, .int .i64 0, .int .i64 0, .int .i64 ms, .int .i64 sc, .slice none 0 0] 26)).heap.size := by simp; omega
  go_wp2_with fail
  refine (rdr.byte_ok _ _ _ r e p (l.drop 12) RD.out (by simp; rw [HLen.out]; omega)).mono ?_
  rintro x1 w9 ⟨rfl, h9, o9⟩
  have RD := hid (show rdr.Rdr w9 _ _ r e p 0 (l.drop 13) from by simpa [List.drop_drop] using h9); have OR := hid (OR.out.only o9 (by simp; omega)); have QB := hid (QB.out.fresh o9 (by simp; omega)); have hz4 := Nat.le_trans hz4 o9.size
  have O13 := hid (O13.out.only o9 (by simp; omega))
  clear h9 o9
  go_wp2_with fail
  refine (rdr.byte_ok _ _ _ r e p (l.drop 13) RD.out (by simp; rw [HLen.out]; omega)).mono ?_
  rintro x1 w10 ⟨rfl, h10, o10⟩
  have RD := hid (show rdr.Rdr w10 _ _ r e p 0 (l.drop 14) from by simpa [List.drop_drop] using h10); have OR := hid (OR.out.only o10 (by simp; omega)); have QB := hid (QB.out.fresh o10 (by simp; omega)); have hz4 := Nat.le_trans hz4 o10.size
  have O13 := hid (O13.out.only o10 (by simp; omega))
  clear h10 o10
  have e5 := E5.out
  generalize hx5 : rdr.num ((l.drop 13).take 1) = x5 at *
  have HX5 := hid hx5; clear hx5
  have q0 := O13.out.cell 6; have q1 := O13.out.frozen 6
  have RD := hid (RD.out.only ((Only.refl [w8.heap.size] w10).setCell (p := ⟨w8.heap.size, 6, none⟩) (Or.inl (by simp)) (.int .i64 fl)) (by simp; omega)); have OR := hid (OR.out.far (p := ⟨w8.heap.size, 6, none⟩) (by simp; omega) (.int .i64 fl)); have QB := hid (QB.out.setCell (p := ⟨w8.heap.size, 6, none⟩) (Or.inr (by simp; omega)) (.int .i64 fl)); have hz4 : w4.heap.size ≤ (w10.setCell ⟨w8.heap.size, 6, none⟩ (.int .i64 fl)).heap.size := by simp; omega
  have O13 : Hid (Ob _ w8.heap.size 26 #[.int .u32 fr, .int .i64 fp, .int .u32 to, .int .i64 tp, .int .u32 sq, .int .u32 ac, .int .i64 fl, .int .i64 0, .int .i64 ms, .int .i64 sc, .slice none 0 0]) := hid (O13.out.set 6 (.int .i64 fl))
  go_wp2_with fail
  clear q0 q1 e5
  refine (rdr.two_ok _ _ _ r e p (l.drop 14) RD.out (by simp; rw [HLen.out]; omega)).mono ?_
  rintro x1 w11 ⟨rfl, h11, o11⟩
  rw [E6.out]
  have RD := hid (show rdr.Rdr w11 _ _ r e p 0 (l.drop 16) from by simpa [List.drop_drop] using h11); have OR := hid (OR.out.only o11 (by simp; omega)); have QB := hid (QB.out.fresh o11 (by simp; omega)); have hz4 := Nat.le_trans hz4 o11.size
  have O13 := hid (O13.out.only o11 (by simp; omega))
  clear h11 o11
  have q0 := O13.out.cell 7; have q1 := O13.out.frozen 7
  have RD := hid (RD.out.only ((Only.refl [w8.heap.size] w11).setCell (p := ⟨w8.heap.size, 7, none⟩) (Or.inl (by simp)) (.int .i64 wi)) (by simp; omega)); have OR := hid (OR.out.far (p := ⟨w8.heap.size, 7, none⟩) (by simp; omega) (.int .i64 wi)); have QB := hid (QB.out.setCell (p := ⟨w8.heap.size, 7, none⟩) (Or.inr (by simp; omega)) (.int .i64 wi)); have hz4 : w4.heap.size ≤ (w11.setCell ⟨w8.heap.size, 7, none⟩ (.int .i64 wi)).heap.size := by simp; omega
  have O13 : Hid (Ob _ w8.heap.size 26 #[.int .u32 fr, .int .i64 fp, .int .u32 to, .int .i64 tp, .int .u32 sq, .int .u32 ac, .int .i64 fl, .int .i64 wi, .int .i64 ms, .int .i64 sc, .slice none 0 0]) := hid (O13.out.set 7 (.int .i64 wi))
  go_wp2_with fail
  clear q0 q1
  refine (rdr.raw_ok _ _ _ r e p (l.drop 16) _ (o + 4) RD.out (by omega) (by simp; rw [HLen.out]; omega) (by omega)).mono ?_
  rintro x1 w12 ⟨v0, rfl, hv0, h12_, o12_⟩
  have RD := hid (show rdr.Rdr w12 _ _ r e p 0 (l.drop (20 + o)) from by have h := h12_; rw [List.drop_drop, show 16 + (o + 4) = 20 + o from by omega] at h; exact h); have OR := hid (OR.out.only o12_ (by simp; omega)); have QB := hid (QB.out.fresh o12_ (by simp; omega)); have hz4 := Nat.le_trans hz4 o12_.size
  have O13 := hid (O13.out.only o12_ (by simp; omega))
  clear hv0 h12_ o12_
  go_wp2_with fail
  refine (rdr.left_ok _ _ _ r e p (l.drop (20 + o)) RD.out).mono ?_
  rintro x1 w13 ⟨rfl, h13, o13⟩
  have RD := hid (show rdr.Rdr w13 _ _ r e p 0 (l.drop (20 + o)) from by simpa [List.drop_drop] using h13); have OR := hid (OR.out.only o13 (by simp; omega)); have QB := hid (QB.out.fresh o13 (by simp; omega)); have hz4 := Nat.le_trans hz4 o13.size
  have O13 := hid (O13.out.only o13 (by simp; omega))
  clear h13 o13
  have hlen : ((l.drop (20 + o)).length : Int) = ((n - (20 + o) : Nat) : Int) := by simp; rw [HLen.out]; try omega
  rw [hlen]
  clear hlen
  have hl13 := O13.out.lt; have hl13' := OR.out.lt
  go_wp2_with fail
  refine (rdr.raw_ok _ _ _ r e p (l.drop (20 + o)) ((n - (20 + o) : Nat) : Int) (n - (20 + o)) RD.out rfl (by simp; rw [HLen.out]; omega) (by omega)).mono ?_
  rintro x1 w14 ⟨v1, rfl, hv1, h14, o14⟩
  have RD := hid (show rdr.Rdr w14 _ _ r e p 0 (l.drop n) from by have h := h14; rw [List.drop_drop, show (20 + o) + (n - (20 + o)) = n from by omega] at h; exact h); have OR := hid (OR.out.only o14 (by simp; omega)); have QB0 := QB.out.size; have QB := hid (QB.out.fresh o14 (by simp; omega)); have hz4 := Nat.le_trans hz4 o14.size
  have O13 := hid (O13.out.only o14 (by simp; omega))
  have V1 : Hid (Own .u8 5 w14 w13.heap.size v1 (l.drop (20 + o))) := hid (by
    have h := hv1
    rwa [List.take_of_length_le (by simp; rw [HLen.out]; omega)] at h)
  clear hv1 h14 o14
  obtain ⟨A1, cap1, ev1, _, _, _, _⟩ := V1.out.slice
  simp only [List.length_drop] at ev1
  subst ev1
  have q0 := O13.out.cell 10; have q1 := O13.out.frozen 10
  have O14 : Hid (Ob (w14.setCell ⟨w8.heap.size, 10, none⟩ (.slice A1 (l.length - (20 + o)) cap1)) w8.heap.size 26 #[.int .u32 fr, .int .i64 fp, .int .u32 to, .int .i64 tp, .int .u32 sq, .int .u32 ac, .int .i64 fl, .int .i64 wi, .int .i64 ms, .int .i64 sc, .slice A1 (l.length - (20 + o)) cap1]) := hid (O13.out.set 10 _)
  have ORx := hid (OR.out.far (p := ⟨w8.heap.size, 10, none⟩) (by simp; omega) (.slice A1 (l.length - (20 + o)) cap1))
  have QBx := hid (QB.out.setCell (p := ⟨w8.heap.size, 10, none⟩) (Or.inr (by simp; omega)) (.slice A1 (l.length - (20 + o)) cap1))
  have V2 := hid (V1.out.only ((Only.refl [w8.heap.size] w14).setCell (p := ⟨w8.heap.size, 10, none⟩) (Or.inl (by simp)) (.slice A1 (l.length - (20 + o)) cap1)) (fun k hk hm => by have := (V1.out.lt k hk).1; simp at hm; omega))
  clear OR QB O13
  go_wp2_with (first
    | (refine wp_loadOb rfl 26 _ rfl _ rfl _ _ O14.out Try.underlying26 rfl (by kernel_rfl) ?_; try simp only [Act.put, List.setIfInBounds_toArray, List.set_cons_zero, List.set_cons_succ])
    | (refine wp_storeOb rfl 26 _ _ rfl _ _ rfl rfl _ _ ORx.out rfl (by kernel_rfl) (by simp [Value.oneCell']) (fun W5 hW5 => ?_); try simp only [Act.put, List.setIfInBounds_toArray, List.set_cons_zero, List.set_cons_succ]; have OR5 := hid (ORx.out.eq_all hW5 rfl); have QB5 := hid (QBx.out.eq_all hW5 (Or.inr (by simp))); have V5 := hid (V2.out.only (Only.eq_all (Only.refl [w.heap.size] _) hW5 (Or.inl (by simp))) (fun k hk hm => by have := (V2.out.lt k hk).1; simp at hm; omega)); clear hW5))
  have r0 := OR5.out.cell 0; have r1 := OR5.out.cell 1; have r2 := OR5.out.cell 2; have r3 := OR5.out.cell 3; have r4 := OR5.out.cell 4; have r5 := OR5.out.cell 5; have r6 := OR5.out.cell 6; have r7 := OR5.out.cell 7; have r8 := OR5.out.cell 8; have r9 := OR5.out.cell 9; have r10 := OR5.out.cell 10
  exact bodyPost_ret (v := .tuple #[.agg #[.int .u32 fr, .int .i64 fp, .int .u32 to, .int .i64 tp, .int .u32 sq, .int .u32 ac, .int .i64 fl, .int .i64 wi, .int .i64 ms, .int .i64 sc, .slice A1 (l.length - (20 + o)) cap1], .int .i64 0]) (by simp [results, Try.results16, go_sem, *]) rfl ⟨_, rfl, V5.out.mono_base (by omega), QB5.out⟩
/-- What Decode says: its error; the segment and its data. -/
def headS (l : List Int) : Int := l.getD 12 0 / 16 * 4
def optS (l : List Int) : List Int := (l.drop 20).take ((headS l).toNat - 20)
def dEr (fr to : Int) (l : List Int) : Int :=
  if 65515 < l.length then 5 else if l.length < 20 then 2 else if headS l < 20 then 3 else if (l.length : Int) < headS l then 2 else if oct.sumF (psd fr to 6 l.length ++ l) ≠ 0 then 4 else if ropO (optS l) = none then 3 else 0
def dGs (fr to : Int) (l : List Int) (v : Value) : Value := if dEr fr to l = 0 then (match ropO (optS l) with
    | some (m, s) => .agg #[.int .u32 fr, .int .i64 (ref.get2 l 0), .int .u32 to, .int .i64 (ref.get2 l 2), .int .u32 (ref.get4 l 4), .int .u32 (ref.get4 l 8), .int .i64 (l.getD 13 0 % 64), .int .i64 (ref.get2 l 14), .int .i64 m, .int .i64 s, v]
    | none => .agg #[.int .u32 0, .int .i64 0, .int .u32 0, .int .i64 0, .int .u32 0, .int .u32 0, .int .i64 0, .int .i64 0, .int .i64 0, .int .i64 0, v]) else .agg #[.int .u32 0, .int .i64 0, .int .u32 0, .int .i64 0, .int .u32 0, .int .u32 0, .int .i64 0, .int .i64 0, .int .i64 0, .int .i64 0, v]
def dDs (fr to : Int) (l : List Int) : List Int := if dEr fr to l = 0 then l.drop (headS l).toNat else []
def DEnds (w : World) (fr to : Int) (l : List Int) (x : Ending) (w' : World) : Prop := ∃ v, x = .returned (.tuple #[dGs fr to l v, .int .i64 (dEr fr to l)]) ∧ Own .u8 5 w' w.heap.size v (dDs fr to l) ∧ Only [] w w'
theorem DEnds.no {w w' : World} {fr to er : Int} {l : List Int} (he : dEr fr to l = er) (h0 : er ≠ 0) (o : Only [] w w') : DEnds w fr to l (.returned (.tuple #[.agg #[.int .u32 0, .int .i64 0, .int .u32 0, .int .i64 0, .int .u32 0, .int .u32 0, .int .i64 0, .int .i64 0, .int .i64 0, .int .i64 0, .slice none 0 0], .int .i64 er])) w' := by
  refine ⟨.slice none 0 0, ?_, ?_, o⟩
  · unfold dGs; rw [he, if_neg h0]
  · unfold dDs; rw [he, if_neg h0]; exact Own.nil _ _ _ _
theorem DEnds.yes {w w' : World} {fr to ms sc : Int} {l : List Int} {v : Value} (he : dEr fr to l = 0) (hr : ropO (optS l) = some (ms, sc)) (hv : Own .u8 5 w' w.heap.size v (l.drop (headS l).toNat)) (o : Only [] w w') :
    DEnds w fr to l (.returned (.tuple #[.agg #[.int .u32 fr, .int .i64 (ref.get2 l 0), .int .u32 to, .int .i64 (ref.get2 l 2), .int .u32 (ref.get4 l 4), .int .u32 (ref.get4 l 8), .int .i64 (l.getD 13 0 % 64), .int .i64 (ref.get2 l 14), .int .i64 ms, .int .i64 sc, v], .int .i64 0])) w' := by
  refine ⟨v, ?_, ?_, o⟩
  · unfold dGs; rw [he, if_pos rfl, hr]
  · unfold dDs; rw [he, if_pos rfl]; exact hv
theorem take1 (l : List Int) (i : Nat) (h : i < l.length) : (l.drop i).take 1 = [l.getD i 0] := by
  rw [List.drop_eq_getElem_cons h, List.take_succ_cons, List.take_zero, List.getD_eq_getElem?_getD, List.getElem?_eq_getElem h]; rfl
theorem takeS (l : List Int) (i k : Nat) (h : i < l.length) : (l.drop i).take (k + 1) = l.getD i 0 :: (l.drop (i + 1)).take k := by
  rw [List.drop_eq_getElem_cons h, List.take_succ_cons, List.getD_eq_getElem?_getD, List.getElem?_eq_getElem h]; rfl
theorem num_get2 (l : List Int) (i : Nat) (h : i + 2 ≤ l.length) : rdr.num ((l.drop i).take 2) = ref.get2 l i := by
  rw [takeS l i 1 (by omega), take1 l (i + 1) (by omega)]; simp [rdr.num, ref.get2]
theorem num_get4 (l : List Int) (i : Nat) (h : i + 4 ≤ l.length) : rdr.num ((l.drop i).take 4) = ref.get4 l i := by
  rw [takeS l i 3 (by omega), takeS l (i + 1) 2 (by omega), takeS l (i + 1 + 1) 1 (by omega), take1 l (i + 1 + 1 + 1) (by omega)]; simp [rdr.num, ref.get4, Nat.add_assoc]; omega
theorem num_one (l : List Int) (i : Nat) (h : i < l.length) : rdr.num ((l.drop i).take 1) = l.getD i 0 := by
  rw [take1 l i h]; simp [rdr.num]
/-- Decode, of any bytes. -/
theorem decAny (w : World) (fr to : Int) (A : Option Addr) (n c : Nat) (l : List Int) (hl : Rd .u8 w A n l) (hc0 : A = none → c = 0) (hnc : n ≤ c) (hcm : c ≤ 9223372036854775807) (hn : n ≤ 70000) :
    Calls Try.prog 16 #[.int .u32 fr, .int .u32 to, .slice A n c] w (DEnds w fr to l) := by
  have hll := hl.len
  by_cases hs : oct.sumF (psd fr to 6 n ++ l) = 0
  · by_cases h1 : 65515 < n
    · refine (dec5 w fr to A n c l hl hc0 hn h1).mono ?_
      rintro e w' ⟨rfl, o⟩
      have hx : dErr n (l.getD 12 0) = 5 := by unfold dErr; rw [if_pos h1]
      rw [hx]
      exact DEnds.no (by unfold dEr; rw [hll, if_pos h1]) (by decide) o
    · by_cases h2 : n < 20
      · refine (dec2 w fr to A n c l hl hc0 hn h2).mono ?_
        rintro e w' ⟨rfl, o⟩
        have hx : dErr n (l.getD 12 0) = 2 := by unfold dErr; rw [if_neg h1, if_pos h2]
        rw [hx]
        exact DEnds.no (by unfold dEr; rw [hll, if_neg h1, if_pos h2]) (by decide) o
      · by_cases h3 : headS l < 20
        · refine (dec3 w fr to A n c l hl hc0 hn (by omega) (by omega) h3).mono ?_
          rintro e w' ⟨rfl, o⟩
          have hx : dErr n (l.getD 12 0) = 3 := by unfold dErr; rw [if_neg h1, if_neg h2, if_pos (show l.getD 12 0 / 16 * 4 < 20 from h3)]
          rw [hx]
          exact DEnds.no (by unfold dEr; rw [hll, if_neg h1, if_neg h2, if_pos h3]) (by decide) o
        · by_cases h4 : (n : Int) < headS l
          · refine (dec2b w fr to A n c l hl hc0 hn (by omega) (by omega) (by unfold headS at h3; omega) h4).mono ?_
            rintro e w' ⟨rfl, o⟩
            have hx : dErr n (l.getD 12 0) = 2 := by unfold dErr; rw [if_neg h1, if_neg h2, if_neg (show ¬ l.getD 12 0 / 16 * 4 < 20 from h3), if_pos (show (n : Int) < l.getD 12 0 / 16 * 4 from h4)]
            rw [hx]
            exact DEnds.no (by unfold dEr; rw [hll, if_neg h1, if_neg h2, if_neg h3, if_pos h4]) (by decide) o
          · have w12 := u8Bd (hl.getD_wf 12 (by omega))
            have hh : headS l = l.getD 12 0 / 16 * 4 := rfl
            obtain ⟨o, ho⟩ : ∃ o : Nat, headS l = 20 + (o : Int) := ⟨(headS l).toNat - 20, by omega⟩
            have hoo : optS l = (l.drop 20).take o := by unfold optS; rw [ho]; congr 1; omega
            have hto : (headS l).toNat = 20 + o := by omega
            have hp : dEr fr to l = if ropO (optS l) = none then 3 else 0 := by unfold dEr; rw [hll, if_neg h1, if_neg h2, if_neg h3, if_neg h4, if_neg (by rw [hs]; simp)]
            have hrr := rop_ropO (optS l)
            cases hro : ropO (optS l) with
            | none =>
              rw [hro, hoo] at hrr
              refine (decNo w fr to A n c l o (by omega) hl hc0 hnc hcm (by omega) (by omega) (by omega) hs hrr).mono ?_
              rintro e w' ⟨rfl, o⟩
              exact DEnds.no (by rw [hp, hro, if_pos rfl]) (by decide) o
            | some q =>
              obtain ⟨ms, sc⟩ := q
              rw [hro, hoo] at hrr
              refine (decYes w fr to A n c l _ _ _ _ (l.getD 13 0 % 64) _ ms sc o (by omega) hl hc0 hnc hcm (by omega) (by omega) (by omega) hs hrr (by have h := num_get2 l 0 (by omega); simpa using h) (num_get2 l 2 (by omega)) (num_get4 l 4 (by omega)) (num_get4 l 8 (by omega)) (by rw [num_one l 13 (by omega)]; exact i64_mask _ 6 63 (by decide) (by decide)) (num_get2 l 14 (by omega))).mono ?_
              rintro e w' ⟨v, rfl, hv, o⟩
              exact DEnds.yes (by rw [hp, hro, if_neg (by simp)]) hro (by rw [hto]; exact hv) o
  · refine (decBad w fr to A n c l hl hc0 hn hs).mono ?_
    rintro e w' ⟨rfl, o⟩
    refine DEnds.no ?_ (dErr_ne _ _) o
    unfold dEr dErr headS
    rw [hll]
    by_cases h1 : 65515 < n
    · rw [if_pos h1, if_pos h1]
    · rw [if_neg h1, if_neg h1]
      by_cases h2 : n < 20
      · rw [if_pos h2, if_pos h2]
      · rw [if_neg h2, if_neg h2]
        by_cases h3 : l.getD 12 0 / 16 * 4 < 20
        · rw [if_pos h3, if_pos h3]
        · rw [if_neg h3, if_neg h3]
          by_cases h4 : (n : Int) < l.getD 12 0 / 16 * 4
          · rw [if_pos h4, if_pos h4]
          · rw [if_neg h4, if_neg h4, if_pos hs]
end Go.Proofs.Ytkpdgfimibmoeaa.seg
