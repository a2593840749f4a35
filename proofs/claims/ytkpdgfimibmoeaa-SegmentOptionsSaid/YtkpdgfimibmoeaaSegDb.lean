/-
  Chapter 14 (segment): what the document's Decode says of any bytes, by a walk of its text. Conditions: none but those typed.
-/
import Derived.Test.YtkpdgfimibmoeaaSegDa
import Derived.Test.YtkpdgfimibmoeaaSegOr
import Derived.Test.YtkpdgfimibmoeaaPsd14
import Derived.Test.YtkpdgfimibmoeaaRga
import Derived.Test.YtkpdgfimibmoeaaCpy
import Derived.Test.YtkpdgfimibmoeaaRgn
import Derived.Test.YtkpdgfimibmoeaaHlp14
namespace Go.Proofs.Ytkpdgfimibmoeaa.seg
set_option linter.unusedVariables false
set_option linter.unusedSimpArgs false
open Go.ChangeShapes Go.WideShapes Go.ChangeAt Go.RowKit Go.IntWalk Go.Lib
theorem ropNo (w : World) (A : Option Addr) (n c : Nat) (l : List Int) (hl : Rd .u8 w A n l) (hnc : n ≤ c) (hcm : c ≤ maxLen) (hn : n ≤ 100000) (hr : Rop 0 (-1) l none) :
    Calls Try.prog 40 #[.slice A n c] w fun e w' => e = .returned (.tuple #[.int .i64 0, .int .i64 0, .bool false]) ∧ ∃ q, w' = w.drewN q := ropAny w A n c l none hl hnc hcm hn hr
theorem ropYes (w : World) (A : Option Addr) (n c : Nat) (l : List Int) (m s : Int) (hl : Rd .u8 w A n l) (hnc : n ≤ c) (hcm : c ≤ maxLen) (hn : n ≤ 100000) (hr : Rop 0 (-1) l (some (m, s))) :
    Calls Try.prog 40 #[.slice A n c] w fun e w' => e = .returned (.tuple #[.int .i64 m, .int .i64 s, .bool true]) ∧ ∃ q, w' = w.drewN q := ropAny w A n c l (some (m, s)) hl hnc hcm hn hr
theorem opStoreOb {P : Program} {o : Oper} {a : Act} {w : World} {K : Act → World → Prop} {Q : Exit → Act → World → Prop} (hgd : o.guard = none) (ty : TypeId) (x y : Operand) (ho : o.op = .store ty x y)
    (g : Nat) (vs : Array Value) (hx : a.eval x = .pointer (some ⟨g, 0, none⟩)) (hy : a.eval y = .agg vs) (cs : Array Value) (t : TypeId) (hb : Ob w g t cs)
    (hs : vs.size = cs.size) (hi : (P.info? ty).map (·.size) = some vs.size) (h1 : vs.all (·.oneCell') = true)
    (h : ∀ W, W = w.setCells g 0 vs.toList → K (a.put o.dst undef) W) : Oper.wp P o a w K Q :=
  wp_store_mid ty x y ho g 0 vs hx hy (hb.there hs) hi h1 (h _ rfl)
theorem get2b (l : List Int) (i : Nat) (h : i + 2 ≤ l.length) (hw : ∀ z ∈ l, 0 ≤ z ∧ z ≤ 255) : 0 ≤ ref.get2 l i ∧ ref.get2 l i ≤ 65535 := by
  have a := hw (l.getD i 0) (by rw [List.getD_eq_getElem?_getD, List.getElem?_eq_getElem (by omega)]; exact List.getElem_mem _)
  have b := hw (l.getD (i + 1) 0) (by rw [List.getD_eq_getElem?_getD, List.getElem?_eq_getElem (by omega)]; exact List.getElem_mem _)
  unfold ref.get2
  omega
set_option maxRecDepth 100000 in
set_option maxHeartbeats 4000000 in
theorem rdec5 (w : World) (fr to : Int) (A : Option Addr) (n c : Nat) (l : List Int) (hl : Rd .u8 w A n l) (hc0 : A = none → c = 0) (hnc : n ≤ c) (hcm : c ≤ 9223372036854775807) (hn : n ≤ 70000) (h : 65515 < n) :
    Calls Try.prog 17 #[.int .u32 fr, .int .u32 to, .slice A n c] w (DEnds w fr to l) := by
  have HLen := hid hl.len
  have HC := hid hc0; clear hc0
  have OR : Hid (Ob (w.alloc (.cells #[.int .u32 0, .int .i64 0, .int .u32 0, .int .i64 0, .int .u32 0, .int .u32 0, .int .i64 0, .int .i64 0, .int .i64 0, .int .i64 0, .slice none 0 0] 26)) w.heap.size 26 #[.int .u32 0, .int .i64 0, .int .u32 0, .int .i64 0, .int .u32 0, .int .u32 0, .int .i64 0, .int .i64 0, .int .i64 0, .int .i64 0, .slice none 0 0]) := hid (Ob.new _ _ _)
  have QB : Hid (Only [] w (w.alloc (.cells #[.int .u32 0, .int .i64 0, .int .u32 0, .int .i64 0, .int .u32 0, .int .u32 0, .int .i64 0, .int .i64 0, .int .i64 0, .int .i64 0, .slice none 0 0] 26))) := hid ((Only.refl [] w).alloc _)
  have HE : Hid (dEr fr to l = 5) := hid (by unfold dEr; rw [HLen.out, if_pos h])
  go_enter Try.func17, Try.ntmps17
  go_wp2_with (refine wp_storeOb rfl 26 _ _ rfl _ _ rfl rfl _ _ OR.out rfl (by kernel_rfl) (by simp [Value.oneCell']) (fun W5 hW5 => ?_); try simp only [Act.put, List.setIfInBounds_toArray, List.set_cons_zero, List.set_cons_succ]; have OR5 := hid (OR.out.eq_all hW5 rfl); have QB5 := hid (QB.out.eq_all hW5 (Or.inr (by simp))); clear hW5)
  have r0 := OR5.out.cell 0; have r1 := OR5.out.cell 1; have r2 := OR5.out.cell 2; have r3 := OR5.out.cell 3; have r4 := OR5.out.cell 4; have r5 := OR5.out.cell 5; have r6 := OR5.out.cell 6; have r7 := OR5.out.cell 7; have r8 := OR5.out.cell 8; have r9 := OR5.out.cell 9; have r10 := OR5.out.cell 10
  exact bodyPost_ret (v := .tuple #[.agg #[.int .u32 0, .int .i64 0, .int .u32 0, .int .i64 0, .int .u32 0, .int .u32 0, .int .i64 0, .int .i64 0, .int .i64 0, .int .i64 0, .slice none 0 0], .int .i64 5]) (by simp [results, Try.results17, go_sem, *]) rfl (DEnds.no HE.out (by decide) QB5.out)
set_option maxRecDepth 100000 in
set_option maxHeartbeats 4000000 in
theorem rdec2 (w : World) (fr to : Int) (A : Option Addr) (n c : Nat) (l : List Int) (hl : Rd .u8 w A n l) (hc0 : A = none → c = 0) (hnc : n ≤ c) (hcm : c ≤ 9223372036854775807) (hn : n ≤ 70000) (h1 : ¬ 65515 < n) (h : n < 20) :
    Calls Try.prog 17 #[.int .u32 fr, .int .u32 to, .slice A n c] w (DEnds w fr to l) := by
  have HLen := hid hl.len
  have HC := hid hc0; clear hc0
  have OR : Hid (Ob (w.alloc (.cells #[.int .u32 0, .int .i64 0, .int .u32 0, .int .i64 0, .int .u32 0, .int .u32 0, .int .i64 0, .int .i64 0, .int .i64 0, .int .i64 0, .slice none 0 0] 26)) w.heap.size 26 #[.int .u32 0, .int .i64 0, .int .u32 0, .int .i64 0, .int .u32 0, .int .u32 0, .int .i64 0, .int .i64 0, .int .i64 0, .int .i64 0, .slice none 0 0]) := hid (Ob.new _ _ _)
  have QB : Hid (Only [] w (w.alloc (.cells #[.int .u32 0, .int .i64 0, .int .u32 0, .int .i64 0, .int .u32 0, .int .u32 0, .int .i64 0, .int .i64 0, .int .i64 0, .int .i64 0, .slice none 0 0] 26))) := hid ((Only.refl [] w).alloc _)
  have HE : Hid (dEr fr to l = 2) := hid (by unfold dEr; rw [HLen.out, if_neg h1, if_pos h])
  go_enter Try.func17, Try.ntmps17
  go_wp2_with (refine wp_storeOb rfl 26 _ _ rfl _ _ rfl rfl _ _ OR.out rfl (by kernel_rfl) (by simp [Value.oneCell']) (fun W5 hW5 => ?_); try simp only [Act.put, List.setIfInBounds_toArray, List.set_cons_zero, List.set_cons_succ]; have OR5 := hid (OR.out.eq_all hW5 rfl); have QB5 := hid (QB.out.eq_all hW5 (Or.inr (by simp))); clear hW5)
  have r0 := OR5.out.cell 0; have r1 := OR5.out.cell 1; have r2 := OR5.out.cell 2; have r3 := OR5.out.cell 3; have r4 := OR5.out.cell 4; have r5 := OR5.out.cell 5; have r6 := OR5.out.cell 6; have r7 := OR5.out.cell 7; have r8 := OR5.out.cell 8; have r9 := OR5.out.cell 9; have r10 := OR5.out.cell 10
  exact bodyPost_ret (v := .tuple #[.agg #[.int .u32 0, .int .i64 0, .int .u32 0, .int .i64 0, .int .u32 0, .int .u32 0, .int .i64 0, .int .i64 0, .int .i64 0, .int .i64 0, .slice none 0 0], .int .i64 2]) (by simp [results, Try.results17, go_sem, *]) rfl (DEnds.no HE.out (by decide) QB5.out)
set_option maxRecDepth 100000 in
set_option maxHeartbeats 4000000 in
theorem rdec3 (w : World) (fr to : Int) (A : Option Addr) (n c : Nat) (l : List Int) (hl : Rd .u8 w A n l) (hc0 : A = none → c = 0) (hnc : n ≤ c) (hcm : c ≤ 9223372036854775807) (hn : n ≤ 70000) (g1 : ¬ 65515 < n) (g2 : ¬ n < 20) (h : headS l < 20) :
    Calls Try.prog 17 #[.int .u32 fr, .int .u32 to, .slice A n c] w (DEnds w fr to l) := by
  have HLen := hid hl.len
  have HC := hid hc0; clear hc0
  have OR : Hid (Ob (w.alloc (.cells #[.int .u32 0, .int .i64 0, .int .u32 0, .int .i64 0, .int .u32 0, .int .u32 0, .int .i64 0, .int .i64 0, .int .i64 0, .int .i64 0, .slice none 0 0] 26)) w.heap.size 26 #[.int .u32 0, .int .i64 0, .int .u32 0, .int .i64 0, .int .u32 0, .int .u32 0, .int .i64 0, .int .i64 0, .int .i64 0, .int .i64 0, .slice none 0 0]) := hid (Ob.new _ _ _)
  have QB : Hid (Only [] w (w.alloc (.cells #[.int .u32 0, .int .i64 0, .int .u32 0, .int .i64 0, .int .u32 0, .int .u32 0, .int .i64 0, .int .i64 0, .int .i64 0, .int .i64 0, .slice none 0 0] 26))) := hid ((Only.refl [] w).alloc _)
  have HE : Hid (dEr fr to l = 3) := hid (by unfold dEr; rw [HLen.out, if_neg g1, if_neg g2, if_pos h])
  have h : l.getD 12 0 / 16 * 4 < 20 := h
  have HL := hid (hl.alloc (.cells #[.int .u32 0, .int .i64 0, .int .u32 0, .int .i64 0, .int .u32 0, .int .u32 0, .int .i64 0, .int .i64 0, .int .i64 0, .int .i64 0, .slice none 0 0] 26))
  obtain ⟨b, off, rfl, hb, hc⟩ := HL.out.at_ (by omega)
  have c12 := hc 12 (by omega)
  have w12 := u8Bd (hl.getD_wf 12 (by omega))
  have c13 := hc 13 (by omega)
  have w13 := u8Bd (hl.getD_wf 13 (by omega))
  generalize l.getD 12 0 = x at *
  have h1 : ¬ 65515 < n := by omega
  have h2 : ¬ n < 20 := by omega
  have hi12 : (12 : Int) < n := by omega
  clear hc hb
  go_enter Try.func17, Try.ntmps17
  go_wp2_with (refine wp_storeOb rfl 26 _ _ rfl _ _ rfl rfl _ _ OR.out rfl (by kernel_rfl) (by simp [Value.oneCell']) (fun W5 hW5 => ?_); try simp only [Act.put, List.setIfInBounds_toArray, List.set_cons_zero, List.set_cons_succ]; have OR5 := hid (OR.out.eq_all hW5 rfl); have QB5 := hid (QB.out.eq_all hW5 (Or.inr (by simp))); clear hW5)
  have r0 := OR5.out.cell 0; have r1 := OR5.out.cell 1; have r2 := OR5.out.cell 2; have r3 := OR5.out.cell 3; have r4 := OR5.out.cell 4; have r5 := OR5.out.cell 5; have r6 := OR5.out.cell 6; have r7 := OR5.out.cell 7; have r8 := OR5.out.cell 8; have r9 := OR5.out.cell 9; have r10 := OR5.out.cell 10
  exact bodyPost_ret (v := .tuple #[.agg #[.int .u32 0, .int .i64 0, .int .u32 0, .int .i64 0, .int .u32 0, .int .u32 0, .int .i64 0, .int .i64 0, .int .i64 0, .int .i64 0, .slice none 0 0], .int .i64 3]) (by simp [results, Try.results17, go_sem, *]) rfl (DEnds.no HE.out (by decide) QB5.out)
set_option maxRecDepth 100000 in
set_option maxHeartbeats 4000000 in
theorem rdec2b (w : World) (fr to : Int) (A : Option Addr) (n c : Nat) (l : List Int) (hl : Rd .u8 w A n l) (hc0 : A = none → c = 0) (hnc : n ≤ c) (hcm : c ≤ 9223372036854775807) (hn : n ≤ 70000) (g1 : ¬ 65515 < n) (g2 : ¬ n < 20) (h3 : ¬ headS l < 20) (h : (n : Int) < headS l) :
    Calls Try.prog 17 #[.int .u32 fr, .int .u32 to, .slice A n c] w (DEnds w fr to l) := by
  have HLen := hid hl.len
  have HC := hid hc0; clear hc0
  have OR : Hid (Ob (w.alloc (.cells #[.int .u32 0, .int .i64 0, .int .u32 0, .int .i64 0, .int .u32 0, .int .u32 0, .int .i64 0, .int .i64 0, .int .i64 0, .int .i64 0, .slice none 0 0] 26)) w.heap.size 26 #[.int .u32 0, .int .i64 0, .int .u32 0, .int .i64 0, .int .u32 0, .int .u32 0, .int .i64 0, .int .i64 0, .int .i64 0, .int .i64 0, .slice none 0 0]) := hid (Ob.new _ _ _)
  have QB : Hid (Only [] w (w.alloc (.cells #[.int .u32 0, .int .i64 0, .int .u32 0, .int .i64 0, .int .u32 0, .int .u32 0, .int .i64 0, .int .i64 0, .int .i64 0, .int .i64 0, .slice none 0 0] 26))) := hid ((Only.refl [] w).alloc _)
  have HE : Hid (dEr fr to l = 2) := hid (by unfold dEr; rw [HLen.out, if_neg g1, if_neg g2, if_neg h3, if_pos h])
  have h3 : ¬ l.getD 12 0 / 16 * 4 < 20 := h3
  have h : (n : Int) < l.getD 12 0 / 16 * 4 := h
  have HL := hid (hl.alloc (.cells #[.int .u32 0, .int .i64 0, .int .u32 0, .int .i64 0, .int .u32 0, .int .u32 0, .int .i64 0, .int .i64 0, .int .i64 0, .int .i64 0, .slice none 0 0] 26))
  obtain ⟨b, off, rfl, hb, hc⟩ := HL.out.at_ (by omega)
  have c12 := hc 12 (by omega)
  have w12 := u8Bd (hl.getD_wf 12 (by omega))
  have c13 := hc 13 (by omega)
  have w13 := u8Bd (hl.getD_wf 13 (by omega))
  generalize l.getD 12 0 = x at *
  have h1 : ¬ 65515 < n := by omega
  have h2 : ¬ n < 20 := by omega
  have hi12 : (12 : Int) < n := by omega
  clear hc hb
  go_enter Try.func17, Try.ntmps17
  go_wp2_with (refine wp_storeOb rfl 26 _ _ rfl _ _ rfl rfl _ _ OR.out rfl (by kernel_rfl) (by simp [Value.oneCell']) (fun W5 hW5 => ?_); try simp only [Act.put, List.setIfInBounds_toArray, List.set_cons_zero, List.set_cons_succ]; have OR5 := hid (OR.out.eq_all hW5 rfl); have QB5 := hid (QB.out.eq_all hW5 (Or.inr (by simp))); clear hW5)
  have r0 := OR5.out.cell 0; have r1 := OR5.out.cell 1; have r2 := OR5.out.cell 2; have r3 := OR5.out.cell 3; have r4 := OR5.out.cell 4; have r5 := OR5.out.cell 5; have r6 := OR5.out.cell 6; have r7 := OR5.out.cell 7; have r8 := OR5.out.cell 8; have r9 := OR5.out.cell 9; have r10 := OR5.out.cell 10
  exact bodyPost_ret (v := .tuple #[.agg #[.int .u32 0, .int .i64 0, .int .u32 0, .int .i64 0, .int .u32 0, .int .u32 0, .int .i64 0, .int .i64 0, .int .i64 0, .int .i64 0, .slice none 0 0], .int .i64 2]) (by simp [results, Try.results17, go_sem, *]) rfl (DEnds.no HE.out (by decide) QB5.out)
set_option maxRecDepth 100000 in
set_option maxHeartbeats 4000000 in
theorem rdec4 (w : World) (fr to : Int) (A : Option Addr) (n c : Nat) (l : List Int) (hl : Rd .u8 w A n l) (hc0 : A = none → c = 0) (hnc : n ≤ c) (hcm : c ≤ 9223372036854775807) (hn : n ≤ 70000) (g1 : ¬ 65515 < n) (g2 : ¬ n < 20) (h3 : ¬ headS l < 20) (h4 : ¬ (n : Int) < headS l) (hs : oct.sumF (psd.psd fr to 6 n ++ l) ≠ 0) :
    Calls Try.prog 17 #[.int .u32 fr, .int .u32 to, .slice A n c] w (DEnds w fr to l) := by
  have HLen := hid hl.len
  have HC := hid hc0; clear hc0
  have OR : Hid (Ob (w.alloc (.cells #[.int .u32 0, .int .i64 0, .int .u32 0, .int .i64 0, .int .u32 0, .int .u32 0, .int .i64 0, .int .i64 0, .int .i64 0, .int .i64 0, .slice none 0 0] 26)) w.heap.size 26 #[.int .u32 0, .int .i64 0, .int .u32 0, .int .i64 0, .int .u32 0, .int .u32 0, .int .i64 0, .int .i64 0, .int .i64 0, .int .i64 0, .slice none 0 0]) := hid (Ob.new _ _ _)
  have QB : Hid (Only [] w (w.alloc (.cells #[.int .u32 0, .int .i64 0, .int .u32 0, .int .i64 0, .int .u32 0, .int .u32 0, .int .i64 0, .int .i64 0, .int .i64 0, .int .i64 0, .slice none 0 0] 26))) := hid ((Only.refl [] w).alloc _)
  have HE : Hid (dEr fr to l = 4) := hid (by unfold dEr; rw [HLen.out, if_neg g1, if_neg g2, if_neg h3, if_neg h4, if_pos (show oct.sumF (psd fr to 6 n ++ l) ≠ 0 from hs)])
  have h3 : ¬ l.getD 12 0 / 16 * 4 < 20 := h3
  have h4 : ¬ (n : Int) < l.getD 12 0 / 16 * 4 := h4
  have HL := hid (hl.alloc (.cells #[.int .u32 0, .int .i64 0, .int .u32 0, .int .i64 0, .int .u32 0, .int .u32 0, .int .i64 0, .int .i64 0, .int .i64 0, .int .i64 0, .slice none 0 0] 26))
  obtain ⟨b, off, rfl, hb, hc⟩ := HL.out.at_ (by omega)
  have c12 := hc 12 (by omega)
  have w12 := u8Bd (hl.getD_wf 12 (by omega))
  have c13 := hc 13 (by omega)
  have w13 := u8Bd (hl.getD_wf 13 (by omega))
  generalize l.getD 12 0 = x at *
  have h1 : ¬ 65515 < n := by omega
  have h2 : ¬ n < 20 := by omega
  have hi12 : (12 : Int) < n := by omega
  clear hc hb
  go_enter Try.func17, Try.ntmps17
  go_wp2_with fail
  refine (psd.summed1 _ fr to 6 _ n c l HL.out (by omega) (by omega)).mono ?_
  rintro x1 w2 ⟨rfl, o2⟩
  have OR := hid (OR.out.only o2 (by simp)); have QB := hid (QB.out.trans o2); clear o2
  have hs1 : (oct.sumF (psd.psd fr to 6 n ++ l) == 0) = false := by simpa using hs
  have hs2 : (oct.sumF (psd.psd fr to 6 n ++ l) != 0) = true := by simpa using hs
  generalize oct.sumF (psd.psd fr to 6 n ++ l) = sm at *
  go_wp2_with (refine wp_storeOb rfl 26 _ _ rfl _ _ rfl rfl _ _ OR.out rfl (by kernel_rfl) (by simp [Value.oneCell']) (fun W5 hW5 => ?_); try simp only [Act.put, List.setIfInBounds_toArray, List.set_cons_zero, List.set_cons_succ]; have OR5 := hid (OR.out.eq_all hW5 rfl); have QB5 := hid (QB.out.eq_all hW5 (Or.inr (by simp))); clear hW5)
  have r0 := OR5.out.cell 0; have r1 := OR5.out.cell 1; have r2 := OR5.out.cell 2; have r3 := OR5.out.cell 3; have r4 := OR5.out.cell 4; have r5 := OR5.out.cell 5; have r6 := OR5.out.cell 6; have r7 := OR5.out.cell 7; have r8 := OR5.out.cell 8; have r9 := OR5.out.cell 9; have r10 := OR5.out.cell 10
  exact bodyPost_ret (v := .tuple #[.agg #[.int .u32 0, .int .i64 0, .int .u32 0, .int .i64 0, .int .u32 0, .int .u32 0, .int .i64 0, .int .i64 0, .int .i64 0, .int .i64 0, .slice none 0 0], .int .i64 4]) (by simp [results, Try.results17, go_sem, *]) rfl (DEnds.no HE.out (by decide) QB5.out)
set_option maxRecDepth 100000 in
set_option maxHeartbeats 4000000 in
theorem rdecNo (w : World) (fr to : Int) (A : Option Addr) (n c : Nat) (l : List Int) (hl : Rd .u8 w A n l) (hc0 : A = none → c = 0) (hnc : n ≤ c) (hcm : c ≤ 9223372036854775807) (hn : n ≤ 70000) (g1 : ¬ 65515 < n) (g2 : ¬ n < 20) (h3 : ¬ headS l < 20) (h4 : ¬ (n : Int) < headS l) (o : Nat) (ho : headS l = 20 + (o : Int)) (hs : oct.sumF (psd.psd fr to 6 n ++ l) = 0) (hr : Rop 0 (-1) ((l.drop 20).take o) none) (HE : Hid (dEr fr to l = 3)) :
    Calls Try.prog 17 #[.int .u32 fr, .int .u32 to, .slice A n c] w (DEnds w fr to l) := by
  have HLen := hid hl.len
  have HC := hid hc0; clear hc0
  have OR : Hid (Ob (w.alloc (.cells #[.int .u32 0, .int .i64 0, .int .u32 0, .int .i64 0, .int .u32 0, .int .u32 0, .int .i64 0, .int .i64 0, .int .i64 0, .int .i64 0, .slice none 0 0] 26)) w.heap.size 26 #[.int .u32 0, .int .i64 0, .int .u32 0, .int .i64 0, .int .u32 0, .int .u32 0, .int .i64 0, .int .i64 0, .int .i64 0, .int .i64 0, .slice none 0 0]) := hid (Ob.new _ _ _)
  have QB : Hid (Only [] w (w.alloc (.cells #[.int .u32 0, .int .i64 0, .int .u32 0, .int .i64 0, .int .u32 0, .int .u32 0, .int .i64 0, .int .i64 0, .int .i64 0, .int .i64 0, .slice none 0 0] 26))) := hid ((Only.refl [] w).alloc _)
  have HS := hid hs; clear hs
  have h3 : ¬ l.getD 12 0 / 16 * 4 < 20 := h3
  have h4 : ¬ (n : Int) < l.getD 12 0 / 16 * 4 := h4
  have ho : l.getD 12 0 / 16 * 4 = 20 + (o : Int) := ho
  have HL := hid (hl.alloc (.cells #[.int .u32 0, .int .i64 0, .int .u32 0, .int .i64 0, .int .u32 0, .int .u32 0, .int .i64 0, .int .i64 0, .int .i64 0, .int .i64 0, .slice none 0 0] 26))
  obtain ⟨b, off, rfl, hb, hc⟩ := HL.out.at_ (by omega)
  have c12 := hc 12 (by omega)
  have w12 := u8Bd (hl.getD_wf 12 (by omega))
  have c13 := hc 13 (by omega)
  have w13 := u8Bd (hl.getD_wf 13 (by omega))
  generalize l.getD 12 0 = x at *
  have h1 : ¬ 65515 < n := by omega
  have h2 : ¬ n < 20 := by omega
  have hi12 : (12 : Int) < n := by omega
  have h12 : x / 16 * 4 = 20 + (o : Int) := ho
  have hC : 20 ≤ x / 16 * 4 := by omega
  have hD : x / 16 * 4 ≤ n := by omega
  have hhn : (20 : Int) + (o : Int) ≤ c := by omega
  have hA : 20 + o ≤ n := by omega
  have hsl : ∃ A' c', (∀ W : World, (Instr.slice 24 (.slice (some ⟨b, off, none⟩) n c) (some (.int .i64 20)) (some (.int .i64 (20 + (o : Int)))) none).run Try.prog W = .ok (.slice A' o c') W) ∧ Rd .u8 (w.alloc (.cells #[.int .u32 0, .int .i64 0, .int .u32 0, .int .i64 0, .int .u32 0, .int .u32 0, .int .i64 0, .int .i64 0, .int .i64 0, .int .i64 0, .slice none 0 0] 26)) A' o ((l.drop 20).take o) ∧ o ≤ c' ∧ c' ≤ maxLen := by
    have h0 := (HL.out.drop 20 (by omega)).take o (by omega)
    by_cases hce : c = 20
    · subst hce
      obtain rfl : o = 0 := by omega
      exact ⟨some ⟨b, off, none⟩, 0, fun W => by go_simp, Rd.nil _ _ _, by omega, by unfold maxLen; omega⟩
    · have h20 : (20 : Int) ≤ c := by omega
      have ho8 : (20 : Int) + (o : Int) ≤ c := by omega
      have hs1 : (0 : Int) ≤ 20 + (o : Int) := by omega
      have hs2 : (20 : Int) ≤ max (20 + (o : Int)) 0 := by omega
      have hs3 : ((20 : Int) + (o : Int)).toNat - 20 = o := by omega
      exact ⟨some ⟨b, off + 20, none⟩, c - 20, fun W => by go_simp, h0, by omega, by unfold maxLen; omega⟩
  obtain ⟨A', c', hsl, hrd, hc', hcm'⟩ := hsl
  have RO' := hid hrd
  clear hc hb hrd h3 h4 ho
  have H12 := hid h12; clear h12
  go_enter Try.func17, Try.ntmps17
  go_wp2_with fail
  refine (psd.summed1 _ fr to 6 _ n c l HL.out (by omega) (by omega)).mono ?_
  rintro x1 w2 ⟨rfl, o2⟩
  rw [HS.out, H12.out]
  clear hC hD
  have HL := hid (HL.out.only_nil o2); have RO' := hid (RO'.out.only_nil o2); have OR := hid (OR.out.only o2 (by simp)); have QB := hid (QB.out.trans o2); clear o2
  go_wp2_with fail
  refine (callsOnly (ropNo _ A' o c' _ RO'.out hc' hcm' (by omega) hr)).mono ?_
  rintro x1 w3 ⟨rfl, o3⟩
  have OR := hid (OR.out.only o3 (by simp)); have QB := hid (QB.out.trans o3); clear o3
  go_wp2_with (refine wp_storeOb rfl 26 _ _ rfl _ _ rfl rfl _ _ OR.out rfl (by kernel_rfl) (by simp [Value.oneCell']) (fun W5 hW5 => ?_); try simp only [Act.put, List.setIfInBounds_toArray, List.set_cons_zero, List.set_cons_succ]; have OR5 := hid (OR.out.eq_all hW5 rfl); have QB5 := hid (QB.out.eq_all hW5 (Or.inr (by simp))); clear hW5)
  have r0 := OR5.out.cell 0; have r1 := OR5.out.cell 1; have r2 := OR5.out.cell 2; have r3 := OR5.out.cell 3; have r4 := OR5.out.cell 4; have r5 := OR5.out.cell 5; have r6 := OR5.out.cell 6; have r7 := OR5.out.cell 7; have r8 := OR5.out.cell 8; have r9 := OR5.out.cell 9; have r10 := OR5.out.cell 10
  exact bodyPost_ret (v := .tuple #[.agg #[.int .u32 0, .int .i64 0, .int .u32 0, .int .i64 0, .int .u32 0, .int .u32 0, .int .i64 0, .int .i64 0, .int .i64 0, .int .i64 0, .slice none 0 0], .int .i64 3]) (by simp [results, Try.results17, go_sem, *]) rfl (DEnds.no HE.out (by decide) QB5.out)
set_option maxRecDepth 100000 in
set_option maxHeartbeats 4000000 in
theorem rdecYes (w : World) (fr to : Int) (A : Option Addr) (n c : Nat) (l : List Int) (hl : Rd .u8 w A n l) (hc0 : A = none → c = 0) (hnc : n ≤ c) (hcm : c ≤ 9223372036854775807) (hn : n ≤ 70000) (g1 : ¬ 65515 < n) (g2 : ¬ n < 20) (h3 : ¬ headS l < 20) (h4 : ¬ (n : Int) < headS l) (o : Nat) (ho : headS l = 20 + (o : Int)) (hs : oct.sumF (psd.psd fr to 6 n ++ l) = 0) (ms sc : Int) (hr : Rop 0 (-1) ((l.drop 20).take o) (some (ms, sc))) (HE : Hid (dEr fr to l = 0)) (HRO : Hid (ropO (optS l) = some (ms, sc))) :
    Calls Try.prog 17 #[.int .u32 fr, .int .u32 to, .slice A n c] w (DEnds w fr to l) := by
  have HLen := hid hl.len
  have HC := hid hc0; clear hc0
  have OR : Hid (Ob (w.alloc (.cells #[.int .u32 0, .int .i64 0, .int .u32 0, .int .i64 0, .int .u32 0, .int .u32 0, .int .i64 0, .int .i64 0, .int .i64 0, .int .i64 0, .slice none 0 0] 26)) w.heap.size 26 #[.int .u32 0, .int .i64 0, .int .u32 0, .int .i64 0, .int .u32 0, .int .u32 0, .int .i64 0, .int .i64 0, .int .i64 0, .int .i64 0, .slice none 0 0]) := hid (Ob.new _ _ _)
  have QB : Hid (Only [] w (w.alloc (.cells #[.int .u32 0, .int .i64 0, .int .u32 0, .int .i64 0, .int .u32 0, .int .u32 0, .int .i64 0, .int .i64 0, .int .i64 0, .int .i64 0, .slice none 0 0] 26))) := hid ((Only.refl [] w).alloc _)
  have HS := hid hs; clear hs
  have HTO : Hid ((headS l).toNat = 20 + o) := hid (by omega)
  have h3 : ¬ l.getD 12 0 / 16 * 4 < 20 := h3
  have h4 : ¬ (n : Int) < l.getD 12 0 / 16 * 4 := h4
  have ho : l.getD 12 0 / 16 * 4 = 20 + (o : Int) := ho
  have HL := hid (hl.alloc (.cells #[.int .u32 0, .int .i64 0, .int .u32 0, .int .i64 0, .int .u32 0, .int .u32 0, .int .i64 0, .int .i64 0, .int .i64 0, .int .i64 0, .slice none 0 0] 26))
  obtain ⟨b, off, rfl, hb, hc⟩ := HL.out.at_ (by omega)
  have c12 := hc 12 (by omega)
  have w12 := u8Bd (hl.getD_wf 12 (by omega))
  have c13 := hc 13 (by omega)
  have w13 := u8Bd (hl.getD_wf 13 (by omega))
  generalize l.getD 12 0 = x at *
  have h1 : ¬ 65515 < n := by omega
  have h2 : ¬ n < 20 := by omega
  have hi12 : (12 : Int) < n := by omega
  have h12 : x / 16 * 4 = 20 + (o : Int) := ho
  have hC : 20 ≤ x / 16 * 4 := by omega
  have hD : x / 16 * 4 ≤ n := by omega
  have hhn : (20 : Int) + (o : Int) ≤ c := by omega
  have hA : 20 + o ≤ n := by omega
  have hsl : ∃ A' c', (∀ W : World, (Instr.slice 24 (.slice (some ⟨b, off, none⟩) n c) (some (.int .i64 20)) (some (.int .i64 (20 + (o : Int)))) none).run Try.prog W = .ok (.slice A' o c') W) ∧ Rd .u8 (w.alloc (.cells #[.int .u32 0, .int .i64 0, .int .u32 0, .int .i64 0, .int .u32 0, .int .u32 0, .int .i64 0, .int .i64 0, .int .i64 0, .int .i64 0, .slice none 0 0] 26)) A' o ((l.drop 20).take o) ∧ o ≤ c' ∧ c' ≤ maxLen := by
    have h0 := (HL.out.drop 20 (by omega)).take o (by omega)
    by_cases hce : c = 20
    · subst hce
      obtain rfl : o = 0 := by omega
      exact ⟨some ⟨b, off, none⟩, 0, fun W => by go_simp, Rd.nil _ _ _, by omega, by unfold maxLen; omega⟩
    · have h20 : (20 : Int) ≤ c := by omega
      have ho8 : (20 : Int) + (o : Int) ≤ c := by omega
      have hs1 : (0 : Int) ≤ 20 + (o : Int) := by omega
      have hs2 : (20 : Int) ≤ max (20 + (o : Int)) 0 := by omega
      have hs3 : ((20 : Int) + (o : Int)).toNat - 20 = o := by omega
      exact ⟨some ⟨b, off + 20, none⟩, c - 20, fun W => by go_simp, h0, by omega, by unfold maxLen; omega⟩
  obtain ⟨A', c', hsl, hrd, hc', hcm'⟩ := hsl
  have RO' := hid hrd
  have hbb : b < w.heap.size := by
    obtain ⟨b2, o2, e2, hb2, _⟩ := hl.at_ (by omega)
    injection e2 with e2; injection e2 with e2 e3; omega
  clear hc hb hrd h3 h4 ho
  have H12 := hid h12; clear h12
  go_enter Try.func17, Try.ntmps17
  go_wp2_with fail
  refine (psd.summed1 _ fr to 6 _ n c l HL.out (by omega) (by omega)).mono ?_
  rintro x1 w2 ⟨rfl, o2⟩
  rw [HS.out, H12.out]
  clear hC hD
  have HL := hid (HL.out.only_nil o2); have RO' := hid (RO'.out.only_nil o2); have OR := hid (OR.out.only o2 (by simp)); have QB := hid (QB.out.trans o2); clear o2
  go_wp2_with fail
  refine (callsOnly (ropYes _ A' o c' _ ms sc RO'.out hc' hcm' (by omega) hr)).mono ?_
  rintro x1 w3 ⟨rfl, o3⟩
  have HL := hid (HL.out.only_nil o3); have OR := hid (OR.out.only o3 (by simp)); have QB := hid (QB.out.trans o3); clear o3 RO' hr hsl c12
  obtain ⟨v0, hv⟩ : ∃ v, ref.get2 l 0 = v := ⟨_, rfl⟩
  have P0 := hid hv; clear hv
  obtain ⟨v2, hv⟩ : ∃ v, ref.get2 l 2 = v := ⟨_, rfl⟩
  have P2 := hid hv; clear hv
  obtain ⟨v4, hv⟩ : ∃ v, ref.get4 l 4 = v := ⟨_, rfl⟩
  have P4 := hid hv; clear hv
  obtain ⟨v8, hv⟩ : ∃ v, ref.get4 l 8 = v := ⟨_, rfl⟩
  have P8 := hid hv; clear hv
  obtain ⟨v14, hv⟩ : ∃ v, ref.get2 l 14 = v := ⟨_, rfl⟩
  have P14 := hid hv; clear hv
  have HBB := hid hbb
  have HC13 : Hid (∀ W : World, Rd .u8 W (some ⟨b, off, none⟩) n l → W.cell? ⟨b, off + 13, none⟩ = some (.int .u8 (l.getD 13 0))) := hid (fun W h => h.cellD 13 (by omega))
  obtain ⟨y, hy⟩ : ∃ y, l.getD 13 0 = y := ⟨_, rfl⟩
  rw [hy] at HC13 w13 c13
  have HY := hid hy; clear hy c13
  have HMOD : Hid (y.tmod 64 = y % 64) := hid (Int.tmod_eq_emod_of_nonneg w13.1)
  have HWR : Hid (IntKind.i64.wrap (y % 64) = y % 64) := hid (i64_in _ (by omega))
  have had : ∃ AD cD, (if c = 20 + o then some (⟨b, off, none⟩ : Addr) else some ⟨b, off + (20 + o), none⟩) = AD ∧ c - (20 + o) = cD ∧ (∀ W : World, Rd .u8 W (some ⟨b, off, none⟩) n l → Rd .u8 W AD (n - (20 + o)) (l.drop (20 + o))) ∧ (AD = none → cD = 0) := by
    refine ⟨_, _, rfl, rfl, fun W h => ?_, ?_⟩
    · split
      · rw [show n - (20 + o) = 0 from by omega, List.drop_of_length_le (by rw [HLen.out]; omega)]; exact Rd.nil _ _ _
      · exact h.drop (20 + o) (by omega)
    · intro hh; split at hh <;> cases hh
  obtain ⟨AD, cD, hAD, hCD, hPD, hAN⟩ := had
  have HAD := hid hAD; have HCD := hid hCD; have HPD := hid hPD; have HAN := hid hAN
  clear hAD hCD hPD hAN
  have hi13 : (13 : Int) < n := by omega
  have hsA : (0 : Int) ≤ 20 + (o : Int) := by omega
  have hsB : (20 : Int) + (o : Int) ≤ n := by omega
  have hto : ((20 : Int) + (o : Int)).toNat = 20 + o := by omega
  go_wp2_with fail
  refine wp_region_noPanic ?_
  refine rgn.regionT (R := Same b) (by kernel_rfl) (Same.refl b) (Same.trans (g := b)) (fun _ _ _ _ _ h => h) (.y 0 (.y 1 (.y 3 (.y 4 (.y 6 (.y 8 (.y 10 (.y 11 (.y 12 (.y 13 (.y 14 (.y 15 (.y 17 (.y 18 (.y 20 (.y 21 (.y 22 (.b 2 19 (.b 5 19 (.b 7 19 (.b 9 19 (.b 16 19 (.e 19 (.e 23 (.y 24 (.e 25 (.e 26 .z))))) (.e 16 (.e 23 (.y 24 (.e 25 (.e 26 .z)))))) (.e 9 (.e 16 (.e 23 (.y 24 (.e 25 (.e 26 .z))))))) (.e 7 (.e 9 (.e 16 (.e 23 (.y 24 (.e 25 (.e 26 .z)))))))) (.e 5 (.e 7 (.e 9 (.e 16 (.e 23 (.y 24 (.e 25 (.e 26 .z))))))))) (.e 2 (.e 5 (.e 7 (.e 9 (.e 16 (.e 23 (.y 24 (.e 25 (.e 26 .z))))))))))))))))))))))))))) (by kernel_rfl) (fun W hWd => ?_)
  have HWd := hid hWd; clear hWd
  have OR := hid (OR.out.eq_drew HWd.out); have QB := hid (QB.out.eq_drew HWd.out); have HL : Hid (Rd .u8 W (some ⟨b, off, none⟩) n l) := hid (by have h9 := HWd.out; subst h9; exact HL.out.drew)
  clear HWd
  refine rgn.Walk.ys (v := ?_) rfl rfl rfl ?_ ?_
  rotate_left 1
  · intro W' hW'
    go_simp
    try with_reducible rfl
  try simp only [Act.put, List.setIfInBounds_toArray, List.set_cons_zero, List.set_cons_succ]
  refine rgn.Walk.ys (v := ?_) rfl rfl rfl ?_ ?_
  rotate_left 1
  · intro W' hW'
    go_simp
    try with_reducible rfl
  try simp only [Act.put, List.setIfInBounds_toArray, List.set_cons_zero, List.set_cons_succ]
  refine rgn.Walk.ys (v := ?_) rfl rfl rfl ?_ ?_
  rotate_left 1
  · intro W' hW'
    go_simp
    try with_reducible rfl
  try simp only [Act.put, List.setIfInBounds_toArray, List.set_cons_zero, List.set_cons_succ]
  refine rgn.Walk.ys (v := ?_) rfl rfl rfl ?_ ?_
  rotate_left 1
  · intro W' hW'
    go_simp
    try with_reducible rfl
  try simp only [Act.put, List.setIfInBounds_toArray, List.set_cons_zero, List.set_cons_succ]
  refine rgn.Walk.ys (v := ?_) rfl rfl rfl ?_ ?_
  rotate_left 1
  · intro W' hW'
    go_simp
    try with_reducible rfl
  try simp only [Act.put, List.setIfInBounds_toArray, List.set_cons_zero, List.set_cons_succ]
  refine rgn.Walk.ys (v := ?_) rfl rfl rfl ?_ ?_
  rotate_left 1
  · intro W' hW'
    go_simp
    try with_reducible rfl
  try simp only [Act.put, List.setIfInBounds_toArray, List.set_cons_zero, List.set_cons_succ]
  refine rgn.Walk.ys (v := ?_) rfl rfl rfl ?_ ?_
  rotate_left 1
  · intro W' hW'
    go_simp
    try with_reducible rfl
  try simp only [Act.put, List.setIfInBounds_toArray, List.set_cons_zero, List.set_cons_succ]
  refine rgn.Walk.ys (v := ?_) rfl rfl rfl ?_ ?_
  rotate_left 1
  · intro W' hW'
    go_simp
    try with_reducible rfl
  try simp only [Act.put, List.setIfInBounds_toArray, List.set_cons_zero, List.set_cons_succ]
  refine rgn.Walk.ys (v := ?_) rfl rfl rfl ?_ ?_
  rotate_left 1
  · intro W' hW'
    have q13 := (World.cell?_of_block (w := W) (a := ⟨b, off + 13, none⟩) (show W'.heap[b]? = W.heap[b]? from hW')).trans (HC13.out _ HL.out)
    go_simp
    try with_reducible rfl
  try simp only [Act.put, List.setIfInBounds_toArray, List.set_cons_zero, List.set_cons_succ]
  refine rgn.Walk.ys (v := ?_) rfl rfl rfl ?_ ?_
  rotate_left 1
  · intro W' hW'
    have hm := HMOD.out
    go_simp
    try with_reducible rfl
  try simp only [Act.put, List.setIfInBounds_toArray, List.set_cons_zero, List.set_cons_succ]
  refine rgn.Walk.ys (v := ?_) rfl rfl rfl ?_ ?_
  rotate_left 1
  · intro W' hW'
    have hm := HWR.out
    go_simp
    try with_reducible rfl
  try simp only [Act.put, List.setIfInBounds_toArray, List.set_cons_zero, List.set_cons_succ]
  refine rgn.Walk.ys (v := ?_) rfl rfl rfl ?_ ?_
  rotate_left 1
  · intro W' hW'
    go_simp
    try with_reducible rfl
  try simp only [Act.put, List.setIfInBounds_toArray, List.set_cons_zero, List.set_cons_succ]
  refine rgn.Walk.ys (v := ?_) rfl rfl rfl ?_ ?_
  rotate_left 1
  · intro W' hW'
    go_simp
    try with_reducible rfl
  try simp only [Act.put, List.setIfInBounds_toArray, List.set_cons_zero, List.set_cons_succ]
  refine rgn.Walk.ys (v := ?_) rfl rfl rfl ?_ ?_
  rotate_left 1
  · intro W' hW'
    go_simp
    try with_reducible rfl
  try simp only [Act.put, List.setIfInBounds_toArray, List.set_cons_zero, List.set_cons_succ]
  refine rgn.Walk.ys (v := ?_) rfl rfl rfl ?_ ?_
  rotate_left 1
  · intro W' hW'
    go_simp
    try with_reducible rfl
  try simp only [Act.put, List.setIfInBounds_toArray, List.set_cons_zero, List.set_cons_succ]
  refine rgn.Walk.ys (v := ?_) rfl rfl rfl ?_ ?_
  rotate_left 1
  · intro W' hW'
    go_simp
    try with_reducible rfl
  try simp only [Act.put, List.setIfInBounds_toArray, List.set_cons_zero, List.set_cons_succ]
  refine rgn.Walk.ys (v := ?_) rfl rfl rfl ?_ ?_
  rotate_left 1
  · intro W' hW'
    go_simp
    try with_reducible rfl
  try simp only [Act.put, List.setIfInBounds_toArray, List.set_cons_zero, List.set_cons_succ]
  refine rgn.Walk.bs ?_ ?_
  · refine rgn.stepE rfl rfl (fun K hK => ?_)
    go_simp
    refine (callsOnly (ref.get21 _ (some ⟨b, off, none⟩) n c l HL.out 0 (by omega) (by omega))).mono ?_
    rw [P0.out]
    rintro x1 wg ⟨rfl, og⟩
    refine hK _ _ (Same.only og (by have := QB.out.size; have := HBB.out; omega)) ?_
    clear hK K
    try simp only [Act.put, List.setIfInBounds_toArray, List.set_cons_zero, List.set_cons_succ]
    have OR := hid (OR.out.only og (by simp)); have QB := hid (QB.out.trans og); have HL := hid (HL.out.only_nil og); clear og
    refine rgn.Walk.bs ?_ ?_
    · refine rgn.stepE rfl rfl (fun K hK => ?_)
      go_simp
      refine (callsOnly (ref.get21 _ (some ⟨b, off, none⟩) n c l HL.out 2 (by omega) (by omega))).mono ?_
      rw [P2.out]
      rintro x1 wg ⟨rfl, og⟩
      refine hK _ _ (Same.only og (by have := QB.out.size; have := HBB.out; omega)) ?_
      clear hK K
      try simp only [Act.put, List.setIfInBounds_toArray, List.set_cons_zero, List.set_cons_succ]
      have OR := hid (OR.out.only og (by simp)); have QB := hid (QB.out.trans og); have HL := hid (HL.out.only_nil og); clear og
      refine rgn.Walk.bs ?_ ?_
      · refine rgn.stepE rfl rfl (fun K hK => ?_)
        go_simp
        refine (callsOnly (ref.get41 _ (some ⟨b, off, none⟩) n c l HL.out 4 (by omega) (by omega))).mono ?_
        rw [P4.out]
        rintro x1 wg ⟨rfl, og⟩
        refine hK _ _ (Same.only og (by have := QB.out.size; have := HBB.out; omega)) ?_
        clear hK K
        try simp only [Act.put, List.setIfInBounds_toArray, List.set_cons_zero, List.set_cons_succ]
        have OR := hid (OR.out.only og (by simp)); have QB := hid (QB.out.trans og); have HL := hid (HL.out.only_nil og); clear og
        refine rgn.Walk.bs ?_ ?_
        · refine rgn.stepE rfl rfl (fun K hK => ?_)
          go_simp
          refine (callsOnly (ref.get41 _ (some ⟨b, off, none⟩) n c l HL.out 8 (by omega) (by omega))).mono ?_
          rw [P8.out]
          rintro x1 wg ⟨rfl, og⟩
          refine hK _ _ (Same.only og (by have := QB.out.size; have := HBB.out; omega)) ?_
          clear hK K
          try simp only [Act.put, List.setIfInBounds_toArray, List.set_cons_zero, List.set_cons_succ]
          have OR := hid (OR.out.only og (by simp)); have QB := hid (QB.out.trans og); have HL := hid (HL.out.only_nil og); clear og
          refine rgn.Walk.bs ?_ ?_
          · refine rgn.stepE rfl rfl (fun K hK => ?_)
            go_simp
            refine (callsOnly (ref.get21 _ (some ⟨b, off, none⟩) n c l HL.out 14 (by omega) (by omega))).mono ?_
            rw [P14.out]
            rintro x1 wg ⟨rfl, og⟩
            refine hK _ _ (Same.only og (by have := QB.out.size; have := HBB.out; omega)) ?_
            clear hK K
            try simp only [Act.put, List.setIfInBounds_toArray, List.set_cons_zero, List.set_cons_succ]
            have OR := hid (OR.out.only og (by simp)); have QB := hid (QB.out.trans og); have HL := hid (HL.out.only_nil og); clear og
            refine rgn.Walk.es ?_
            refine rgn.stepE rfl rfl (fun K hK => ?_)
            go_simp
            refine hK _ _ (Same.alloc _ (by have := QB.out.size; have := HBB.out; omega)) ?_
            clear hK K
            try simp only [Act.put, List.setIfInBounds_toArray, List.set_cons_zero, List.set_cons_succ]
            have V0 : Hid (Own .u8 5 _ (w.heap.size + 1) _ []) := hid (Own.lit .u8 5 _ (w.heap.size + 1) [] #[] 0 rfl rfl OR.out.lt (by simp) (by simp)); have OR := hid (OR.out.alloc (.cells #[] 5)); have QB := hid (QB.out.alloc (.cells #[] 5)); have HL := hid (HL.out.alloc (.cells #[] 5))
            refine rgn.Walk.es ?_
            refine rgn.stepE rfl rfl (fun K hK => ?_)
            refine opApp rfl (.tmp 70) (.tmp 73) _ rfl hlp.elemB (w.heap.size + 1) _ [] rfl V0.out AD (n - (20 + o)) cD (l.drop (20 + o)) (by rw [← HAD.out, ← HCD.out]; first | rfl | go_simp) (HPD.out _ HL.out) HAN.out (by simp; omega) (by unfold maxLen; simp; omega) OR.out.lt ?_
            intro v1 w1 hv hg hb
            refine hK _ _ (Same.grown hg (by have := QB.out.size; have := HBB.out; omega) (fun e => by have := (V0.out.lt _ e).1; have h9 := HBB.out; omega)) ?_
            clear hK K
            try simp only [Act.put, List.setIfInBounds_toArray, List.set_cons_zero, List.set_cons_succ]
            have QB := hid (QB.out.of_grown hg (fun k hk => .inr (by have := (V0.out.lt k hk).1; omega))); have HL := hid (HL.out.grown hg (fun bb oo e hlt e2 => by have := (V0.out.lt _ e2).1; have h9 := HBB.out; injection e with e; injection e with e3 e4; omega)); have OR := hid (OR.out.grown hg (fun e => by have := (V0.out.lt _ e).1; omega)); have V1 : Hid (Own .u8 5 w1 (w.heap.size + 1) v1 (l.drop (20 + o))) := hid hv; clear hv hg hb
            obtain ⟨A5, c5, ev5, _, _, _, _⟩ := V1.out.slice
            rw [List.length_drop, HLen.out] at ev5
            subst ev5
            refine rgn.Walk.ys (v := ?_) rfl rfl rfl ?_ ?_
            rotate_left 1
            · intro W' hW'
              go_simp
              try with_reducible rfl
            try simp only [Act.put, List.setIfInBounds_toArray, List.set_cons_zero, List.set_cons_succ]
            refine rgn.Walk.es ?_
            refine rgn.stepE rfl rfl (fun K hK => ?_)
            refine opStoreOb rfl 26 _ _ rfl w.heap.size #[.int .u32 fr, .int .i64 v0, .int .u32 to, .int .i64 v2, .int .u32 v4, .int .u32 v8, .int .i64 (y % 64), .int .i64 v14, .int .i64 ms, .int .i64 sc, .slice A5 (n - (20 + o)) c5] rfl rfl _ _ OR.out rfl (by kernel_rfl) (by simp [Value.oneCell']) (fun W9 hW9 => ?_)
            refine hK _ _ (((Only.refl [w.heap.size] _).eq_all hW9 (Or.inl (by simp))).block b (by have := QB.out.size; have := HBB.out; omega) (by simp; have := HBB.out; omega)) ?_
            clear hK K
            try simp only [Act.put, List.setIfInBounds_toArray, List.set_cons_zero, List.set_cons_succ]
            have OR5 := hid (OR.out.eq_all hW9 rfl); have QB5 := hid (QB.out.eq_all hW9 (Or.inr (by simp))); have QV5 : Hid (Only [w.heap.size] _ W9) := hid ((Only.refl _ _).eq_all hW9 (Or.inl (by simp))); clear hW9
            refine rgn.Walk.es ?_
            refine rgn.stepE rfl rfl (fun K hK => ?_)
            go_simp
            refine hK _ _ ((Same.refl b) _) ?_
            clear hK K
            try simp only [Act.put, List.setIfInBounds_toArray, List.set_cons_zero, List.set_cons_succ]
            refine rgn.Walk.zs (NoPanic.normal ?_)
            have HV5 := hid (V1.out.only QV5.out (fun i hi => by have h9 := (V1.out.lt i hi).1; simp; omega))
            have r0 := OR5.out.cell 0; have r1 := OR5.out.cell 1; have r2 := OR5.out.cell 2; have r3 := OR5.out.cell 3; have r4 := OR5.out.cell 4; have r5 := OR5.out.cell 5; have r6 := OR5.out.cell 6; have r7 := OR5.out.cell 7; have r8 := OR5.out.cell 8; have r9 := OR5.out.cell 9; have r10 := OR5.out.cell 10
            go_wp2
            all_goals exact bodyPost_ret (v := .tuple #[.agg #[.int .u32 fr, .int .i64 v0, .int .u32 to, .int .i64 v2, .int .u32 v4, .int .u32 v8, .int .i64 (y % 64), .int .i64 v14, .int .i64 ms, .int .i64 sc, .slice A5 (n - (20 + o)) c5], .int .i64 0]) (by simp [results, Try.results17, go_sem, *]) rfl (by rw [← P0.out, ← P2.out, ← P4.out, ← P8.out, ← P14.out, ← HY.out]; exact DEnds.yes HE.out HRO.out (by have h9 := HV5.out.mono_base (show w.heap.size ≤ w.heap.size + 1 by omega); rw [HTO.out]; exact h9) QB5.out)
          · refine rgn.stepE rfl rfl (fun K hK => ?_)
            go_simp
            refine hK _ _ (Same.alloc _ (by have := QB.out.size; have := HBB.out; omega)) ?_
            clear hK K
            try simp only [Act.put, List.setIfInBounds_toArray, List.set_cons_zero, List.set_cons_succ]
            have V0 : Hid (Own .u8 5 _ (w.heap.size + 1) _ []) := hid (Own.lit .u8 5 _ (w.heap.size + 1) [] #[] 0 rfl rfl OR.out.lt (by simp) (by simp)); have OR := hid (OR.out.alloc (.cells #[] 5)); have QB := hid (QB.out.alloc (.cells #[] 5)); have HL := hid (HL.out.alloc (.cells #[] 5))
            refine rgn.Walk.es ?_
            refine rgn.stepE rfl rfl (fun K hK => ?_)
            go_simp
            refine (callsOnly (ref.get21 _ (some ⟨b, off, none⟩) n c l HL.out 14 (by omega) (by omega))).mono ?_
            rw [P14.out]
            rintro x1 wg ⟨rfl, og⟩
            refine hK _ _ (Same.only og (by have := QB.out.size; have := HBB.out; omega)) ?_
            clear hK K
            try simp only [Act.put, List.setIfInBounds_toArray, List.set_cons_zero, List.set_cons_succ]
            have OR := hid (OR.out.only og (by simp)); have QB := hid (QB.out.trans og); have HL := hid (HL.out.only_nil og); have V0 := hid (V0.out.only_nil og); clear og
            refine rgn.Walk.es ?_
            refine rgn.stepE rfl rfl (fun K hK => ?_)
            refine opApp rfl (.tmp 70) (.tmp 73) _ rfl hlp.elemB (w.heap.size + 1) _ [] rfl V0.out AD (n - (20 + o)) cD (l.drop (20 + o)) (by rw [← HAD.out, ← HCD.out]; first | rfl | go_simp) (HPD.out _ HL.out) HAN.out (by simp; omega) (by unfold maxLen; simp; omega) OR.out.lt ?_
            intro v1 w1 hv hg hb
            refine hK _ _ (Same.grown hg (by have := QB.out.size; have := HBB.out; omega) (fun e => by have := (V0.out.lt _ e).1; have h9 := HBB.out; omega)) ?_
            clear hK K
            try simp only [Act.put, List.setIfInBounds_toArray, List.set_cons_zero, List.set_cons_succ]
            have QB := hid (QB.out.of_grown hg (fun k hk => .inr (by have := (V0.out.lt k hk).1; omega))); have HL := hid (HL.out.grown hg (fun bb oo e hlt e2 => by have := (V0.out.lt _ e2).1; have h9 := HBB.out; injection e with e; injection e with e3 e4; omega)); have OR := hid (OR.out.grown hg (fun e => by have := (V0.out.lt _ e).1; omega)); have V1 : Hid (Own .u8 5 w1 (w.heap.size + 1) v1 (l.drop (20 + o))) := hid hv; clear hv hg hb
            obtain ⟨A5, c5, ev5, _, _, _, _⟩ := V1.out.slice
            rw [List.length_drop, HLen.out] at ev5
            subst ev5
            refine rgn.Walk.ys (v := ?_) rfl rfl rfl ?_ ?_
            rotate_left 1
            · intro W' hW'
              go_simp
              try with_reducible rfl
            try simp only [Act.put, List.setIfInBounds_toArray, List.set_cons_zero, List.set_cons_succ]
            refine rgn.Walk.es ?_
            refine rgn.stepE rfl rfl (fun K hK => ?_)
            refine opStoreOb rfl 26 _ _ rfl w.heap.size #[.int .u32 fr, .int .i64 v0, .int .u32 to, .int .i64 v2, .int .u32 v4, .int .u32 v8, .int .i64 (y % 64), .int .i64 v14, .int .i64 ms, .int .i64 sc, .slice A5 (n - (20 + o)) c5] rfl rfl _ _ OR.out rfl (by kernel_rfl) (by simp [Value.oneCell']) (fun W9 hW9 => ?_)
            refine hK _ _ (((Only.refl [w.heap.size] _).eq_all hW9 (Or.inl (by simp))).block b (by have := QB.out.size; have := HBB.out; omega) (by simp; have := HBB.out; omega)) ?_
            clear hK K
            try simp only [Act.put, List.setIfInBounds_toArray, List.set_cons_zero, List.set_cons_succ]
            have OR5 := hid (OR.out.eq_all hW9 rfl); have QB5 := hid (QB.out.eq_all hW9 (Or.inr (by simp))); have QV5 : Hid (Only [w.heap.size] _ W9) := hid ((Only.refl _ _).eq_all hW9 (Or.inl (by simp))); clear hW9
            refine rgn.Walk.es ?_
            refine rgn.stepE rfl rfl (fun K hK => ?_)
            go_simp
            refine hK _ _ ((Same.refl b) _) ?_
            clear hK K
            try simp only [Act.put, List.setIfInBounds_toArray, List.set_cons_zero, List.set_cons_succ]
            refine rgn.Walk.zs (NoPanic.normal ?_)
            have HV5 := hid (V1.out.only QV5.out (fun i hi => by have h9 := (V1.out.lt i hi).1; simp; omega))
            have r0 := OR5.out.cell 0; have r1 := OR5.out.cell 1; have r2 := OR5.out.cell 2; have r3 := OR5.out.cell 3; have r4 := OR5.out.cell 4; have r5 := OR5.out.cell 5; have r6 := OR5.out.cell 6; have r7 := OR5.out.cell 7; have r8 := OR5.out.cell 8; have r9 := OR5.out.cell 9; have r10 := OR5.out.cell 10
            go_wp2
            all_goals exact bodyPost_ret (v := .tuple #[.agg #[.int .u32 fr, .int .i64 v0, .int .u32 to, .int .i64 v2, .int .u32 v4, .int .u32 v8, .int .i64 (y % 64), .int .i64 v14, .int .i64 ms, .int .i64 sc, .slice A5 (n - (20 + o)) c5], .int .i64 0]) (by simp [results, Try.results17, go_sem, *]) rfl (by rw [← P0.out, ← P2.out, ← P4.out, ← P8.out, ← P14.out, ← HY.out]; exact DEnds.yes HE.out HRO.out (by have h9 := HV5.out.mono_base (show w.heap.size ≤ w.heap.size + 1 by omega); rw [HTO.out]; exact h9) QB5.out)
        · refine rgn.stepE rfl rfl (fun K hK => ?_)
          go_simp
          refine hK _ _ (Same.alloc _ (by have := QB.out.size; have := HBB.out; omega)) ?_
          clear hK K
          try simp only [Act.put, List.setIfInBounds_toArray, List.set_cons_zero, List.set_cons_succ]
          have V0 : Hid (Own .u8 5 _ (w.heap.size + 1) _ []) := hid (Own.lit .u8 5 _ (w.heap.size + 1) [] #[] 0 rfl rfl OR.out.lt (by simp) (by simp)); have OR := hid (OR.out.alloc (.cells #[] 5)); have QB := hid (QB.out.alloc (.cells #[] 5)); have HL := hid (HL.out.alloc (.cells #[] 5))
          refine rgn.Walk.es ?_
          refine rgn.stepE rfl rfl (fun K hK => ?_)
          go_simp
          refine (callsOnly (ref.get41 _ (some ⟨b, off, none⟩) n c l HL.out 8 (by omega) (by omega))).mono ?_
          rw [P8.out]
          rintro x1 wg ⟨rfl, og⟩
          refine hK _ _ (Same.only og (by have := QB.out.size; have := HBB.out; omega)) ?_
          clear hK K
          try simp only [Act.put, List.setIfInBounds_toArray, List.set_cons_zero, List.set_cons_succ]
          have OR := hid (OR.out.only og (by simp)); have QB := hid (QB.out.trans og); have HL := hid (HL.out.only_nil og); have V0 := hid (V0.out.only_nil og); clear og
          refine rgn.Walk.es ?_
          refine rgn.stepE rfl rfl (fun K hK => ?_)
          go_simp
          refine (callsOnly (ref.get21 _ (some ⟨b, off, none⟩) n c l HL.out 14 (by omega) (by omega))).mono ?_
          rw [P14.out]
          rintro x1 wg ⟨rfl, og⟩
          refine hK _ _ (Same.only og (by have := QB.out.size; have := HBB.out; omega)) ?_
          clear hK K
          try simp only [Act.put, List.setIfInBounds_toArray, List.set_cons_zero, List.set_cons_succ]
          have OR := hid (OR.out.only og (by simp)); have QB := hid (QB.out.trans og); have HL := hid (HL.out.only_nil og); have V0 := hid (V0.out.only_nil og); clear og
          refine rgn.Walk.es ?_
          refine rgn.stepE rfl rfl (fun K hK => ?_)
          refine opApp rfl (.tmp 70) (.tmp 73) _ rfl hlp.elemB (w.heap.size + 1) _ [] rfl V0.out AD (n - (20 + o)) cD (l.drop (20 + o)) (by rw [← HAD.out, ← HCD.out]; first | rfl | go_simp) (HPD.out _ HL.out) HAN.out (by simp; omega) (by unfold maxLen; simp; omega) OR.out.lt ?_
          intro v1 w1 hv hg hb
          refine hK _ _ (Same.grown hg (by have := QB.out.size; have := HBB.out; omega) (fun e => by have := (V0.out.lt _ e).1; have h9 := HBB.out; omega)) ?_
          clear hK K
          try simp only [Act.put, List.setIfInBounds_toArray, List.set_cons_zero, List.set_cons_succ]
          have QB := hid (QB.out.of_grown hg (fun k hk => .inr (by have := (V0.out.lt k hk).1; omega))); have HL := hid (HL.out.grown hg (fun bb oo e hlt e2 => by have := (V0.out.lt _ e2).1; have h9 := HBB.out; injection e with e; injection e with e3 e4; omega)); have OR := hid (OR.out.grown hg (fun e => by have := (V0.out.lt _ e).1; omega)); have V1 : Hid (Own .u8 5 w1 (w.heap.size + 1) v1 (l.drop (20 + o))) := hid hv; clear hv hg hb
          obtain ⟨A5, c5, ev5, _, _, _, _⟩ := V1.out.slice
          rw [List.length_drop, HLen.out] at ev5
          subst ev5
          refine rgn.Walk.ys (v := ?_) rfl rfl rfl ?_ ?_
          rotate_left 1
          · intro W' hW'
            go_simp
            try with_reducible rfl
          try simp only [Act.put, List.setIfInBounds_toArray, List.set_cons_zero, List.set_cons_succ]
          refine rgn.Walk.es ?_
          refine rgn.stepE rfl rfl (fun K hK => ?_)
          refine opStoreOb rfl 26 _ _ rfl w.heap.size #[.int .u32 fr, .int .i64 v0, .int .u32 to, .int .i64 v2, .int .u32 v4, .int .u32 v8, .int .i64 (y % 64), .int .i64 v14, .int .i64 ms, .int .i64 sc, .slice A5 (n - (20 + o)) c5] rfl rfl _ _ OR.out rfl (by kernel_rfl) (by simp [Value.oneCell']) (fun W9 hW9 => ?_)
          refine hK _ _ (((Only.refl [w.heap.size] _).eq_all hW9 (Or.inl (by simp))).block b (by have := QB.out.size; have := HBB.out; omega) (by simp; have := HBB.out; omega)) ?_
          clear hK K
          try simp only [Act.put, List.setIfInBounds_toArray, List.set_cons_zero, List.set_cons_succ]
          have OR5 := hid (OR.out.eq_all hW9 rfl); have QB5 := hid (QB.out.eq_all hW9 (Or.inr (by simp))); have QV5 : Hid (Only [w.heap.size] _ W9) := hid ((Only.refl _ _).eq_all hW9 (Or.inl (by simp))); clear hW9
          refine rgn.Walk.es ?_
          refine rgn.stepE rfl rfl (fun K hK => ?_)
          go_simp
          refine hK _ _ ((Same.refl b) _) ?_
          clear hK K
          try simp only [Act.put, List.setIfInBounds_toArray, List.set_cons_zero, List.set_cons_succ]
          refine rgn.Walk.zs (NoPanic.normal ?_)
          have HV5 := hid (V1.out.only QV5.out (fun i hi => by have h9 := (V1.out.lt i hi).1; simp; omega))
          have r0 := OR5.out.cell 0; have r1 := OR5.out.cell 1; have r2 := OR5.out.cell 2; have r3 := OR5.out.cell 3; have r4 := OR5.out.cell 4; have r5 := OR5.out.cell 5; have r6 := OR5.out.cell 6; have r7 := OR5.out.cell 7; have r8 := OR5.out.cell 8; have r9 := OR5.out.cell 9; have r10 := OR5.out.cell 10
          go_wp2
          all_goals exact bodyPost_ret (v := .tuple #[.agg #[.int .u32 fr, .int .i64 v0, .int .u32 to, .int .i64 v2, .int .u32 v4, .int .u32 v8, .int .i64 (y % 64), .int .i64 v14, .int .i64 ms, .int .i64 sc, .slice A5 (n - (20 + o)) c5], .int .i64 0]) (by simp [results, Try.results17, go_sem, *]) rfl (by rw [← P0.out, ← P2.out, ← P4.out, ← P8.out, ← P14.out, ← HY.out]; exact DEnds.yes HE.out HRO.out (by have h9 := HV5.out.mono_base (show w.heap.size ≤ w.heap.size + 1 by omega); rw [HTO.out]; exact h9) QB5.out)
      · refine rgn.stepE rfl rfl (fun K hK => ?_)
        go_simp
        refine hK _ _ (Same.alloc _ (by have := QB.out.size; have := HBB.out; omega)) ?_
        clear hK K
        try simp only [Act.put, List.setIfInBounds_toArray, List.set_cons_zero, List.set_cons_succ]
        have V0 : Hid (Own .u8 5 _ (w.heap.size + 1) _ []) := hid (Own.lit .u8 5 _ (w.heap.size + 1) [] #[] 0 rfl rfl OR.out.lt (by simp) (by simp)); have OR := hid (OR.out.alloc (.cells #[] 5)); have QB := hid (QB.out.alloc (.cells #[] 5)); have HL := hid (HL.out.alloc (.cells #[] 5))
        refine rgn.Walk.es ?_
        refine rgn.stepE rfl rfl (fun K hK => ?_)
        go_simp
        refine (callsOnly (ref.get41 _ (some ⟨b, off, none⟩) n c l HL.out 4 (by omega) (by omega))).mono ?_
        rw [P4.out]
        rintro x1 wg ⟨rfl, og⟩
        refine hK _ _ (Same.only og (by have := QB.out.size; have := HBB.out; omega)) ?_
        clear hK K
        try simp only [Act.put, List.setIfInBounds_toArray, List.set_cons_zero, List.set_cons_succ]
        have OR := hid (OR.out.only og (by simp)); have QB := hid (QB.out.trans og); have HL := hid (HL.out.only_nil og); have V0 := hid (V0.out.only_nil og); clear og
        refine rgn.Walk.es ?_
        refine rgn.stepE rfl rfl (fun K hK => ?_)
        go_simp
        refine (callsOnly (ref.get41 _ (some ⟨b, off, none⟩) n c l HL.out 8 (by omega) (by omega))).mono ?_
        rw [P8.out]
        rintro x1 wg ⟨rfl, og⟩
        refine hK _ _ (Same.only og (by have := QB.out.size; have := HBB.out; omega)) ?_
        clear hK K
        try simp only [Act.put, List.setIfInBounds_toArray, List.set_cons_zero, List.set_cons_succ]
        have OR := hid (OR.out.only og (by simp)); have QB := hid (QB.out.trans og); have HL := hid (HL.out.only_nil og); have V0 := hid (V0.out.only_nil og); clear og
        refine rgn.Walk.es ?_
        refine rgn.stepE rfl rfl (fun K hK => ?_)
        go_simp
        refine (callsOnly (ref.get21 _ (some ⟨b, off, none⟩) n c l HL.out 14 (by omega) (by omega))).mono ?_
        rw [P14.out]
        rintro x1 wg ⟨rfl, og⟩
        refine hK _ _ (Same.only og (by have := QB.out.size; have := HBB.out; omega)) ?_
        clear hK K
        try simp only [Act.put, List.setIfInBounds_toArray, List.set_cons_zero, List.set_cons_succ]
        have OR := hid (OR.out.only og (by simp)); have QB := hid (QB.out.trans og); have HL := hid (HL.out.only_nil og); have V0 := hid (V0.out.only_nil og); clear og
        refine rgn.Walk.es ?_
        refine rgn.stepE rfl rfl (fun K hK => ?_)
        refine opApp rfl (.tmp 70) (.tmp 73) _ rfl hlp.elemB (w.heap.size + 1) _ [] rfl V0.out AD (n - (20 + o)) cD (l.drop (20 + o)) (by rw [← HAD.out, ← HCD.out]; first | rfl | go_simp) (HPD.out _ HL.out) HAN.out (by simp; omega) (by unfold maxLen; simp; omega) OR.out.lt ?_
        intro v1 w1 hv hg hb
        refine hK _ _ (Same.grown hg (by have := QB.out.size; have := HBB.out; omega) (fun e => by have := (V0.out.lt _ e).1; have h9 := HBB.out; omega)) ?_
        clear hK K
        try simp only [Act.put, List.setIfInBounds_toArray, List.set_cons_zero, List.set_cons_succ]
        have QB := hid (QB.out.of_grown hg (fun k hk => .inr (by have := (V0.out.lt k hk).1; omega))); have HL := hid (HL.out.grown hg (fun bb oo e hlt e2 => by have := (V0.out.lt _ e2).1; have h9 := HBB.out; injection e with e; injection e with e3 e4; omega)); have OR := hid (OR.out.grown hg (fun e => by have := (V0.out.lt _ e).1; omega)); have V1 : Hid (Own .u8 5 w1 (w.heap.size + 1) v1 (l.drop (20 + o))) := hid hv; clear hv hg hb
        obtain ⟨A5, c5, ev5, _, _, _, _⟩ := V1.out.slice
        rw [List.length_drop, HLen.out] at ev5
        subst ev5
        refine rgn.Walk.ys (v := ?_) rfl rfl rfl ?_ ?_
        rotate_left 1
        · intro W' hW'
          go_simp
          try with_reducible rfl
        try simp only [Act.put, List.setIfInBounds_toArray, List.set_cons_zero, List.set_cons_succ]
        refine rgn.Walk.es ?_
        refine rgn.stepE rfl rfl (fun K hK => ?_)
        refine opStoreOb rfl 26 _ _ rfl w.heap.size #[.int .u32 fr, .int .i64 v0, .int .u32 to, .int .i64 v2, .int .u32 v4, .int .u32 v8, .int .i64 (y % 64), .int .i64 v14, .int .i64 ms, .int .i64 sc, .slice A5 (n - (20 + o)) c5] rfl rfl _ _ OR.out rfl (by kernel_rfl) (by simp [Value.oneCell']) (fun W9 hW9 => ?_)
        refine hK _ _ (((Only.refl [w.heap.size] _).eq_all hW9 (Or.inl (by simp))).block b (by have := QB.out.size; have := HBB.out; omega) (by simp; have := HBB.out; omega)) ?_
        clear hK K
        try simp only [Act.put, List.setIfInBounds_toArray, List.set_cons_zero, List.set_cons_succ]
        have OR5 := hid (OR.out.eq_all hW9 rfl); have QB5 := hid (QB.out.eq_all hW9 (Or.inr (by simp))); have QV5 : Hid (Only [w.heap.size] _ W9) := hid ((Only.refl _ _).eq_all hW9 (Or.inl (by simp))); clear hW9
        refine rgn.Walk.es ?_
        refine rgn.stepE rfl rfl (fun K hK => ?_)
        go_simp
        refine hK _ _ ((Same.refl b) _) ?_
        clear hK K
        try simp only [Act.put, List.setIfInBounds_toArray, List.set_cons_zero, List.set_cons_succ]
        refine rgn.Walk.zs (NoPanic.normal ?_)
        have HV5 := hid (V1.out.only QV5.out (fun i hi => by have h9 := (V1.out.lt i hi).1; simp; omega))
        have r0 := OR5.out.cell 0; have r1 := OR5.out.cell 1; have r2 := OR5.out.cell 2; have r3 := OR5.out.cell 3; have r4 := OR5.out.cell 4; have r5 := OR5.out.cell 5; have r6 := OR5.out.cell 6; have r7 := OR5.out.cell 7; have r8 := OR5.out.cell 8; have r9 := OR5.out.cell 9; have r10 := OR5.out.cell 10
        go_wp2
        all_goals exact bodyPost_ret (v := .tuple #[.agg #[.int .u32 fr, .int .i64 v0, .int .u32 to, .int .i64 v2, .int .u32 v4, .int .u32 v8, .int .i64 (y % 64), .int .i64 v14, .int .i64 ms, .int .i64 sc, .slice A5 (n - (20 + o)) c5], .int .i64 0]) (by simp [results, Try.results17, go_sem, *]) rfl (by rw [← P0.out, ← P2.out, ← P4.out, ← P8.out, ← P14.out, ← HY.out]; exact DEnds.yes HE.out HRO.out (by have h9 := HV5.out.mono_base (show w.heap.size ≤ w.heap.size + 1 by omega); rw [HTO.out]; exact h9) QB5.out)
    · refine rgn.stepE rfl rfl (fun K hK => ?_)
      go_simp
      refine hK _ _ (Same.alloc _ (by have := QB.out.size; have := HBB.out; omega)) ?_
      clear hK K
      try simp only [Act.put, List.setIfInBounds_toArray, List.set_cons_zero, List.set_cons_succ]
      have V0 : Hid (Own .u8 5 _ (w.heap.size + 1) _ []) := hid (Own.lit .u8 5 _ (w.heap.size + 1) [] #[] 0 rfl rfl OR.out.lt (by simp) (by simp)); have OR := hid (OR.out.alloc (.cells #[] 5)); have QB := hid (QB.out.alloc (.cells #[] 5)); have HL := hid (HL.out.alloc (.cells #[] 5))
      refine rgn.Walk.es ?_
      refine rgn.stepE rfl rfl (fun K hK => ?_)
      go_simp
      refine (callsOnly (ref.get21 _ (some ⟨b, off, none⟩) n c l HL.out 2 (by omega) (by omega))).mono ?_
      rw [P2.out]
      rintro x1 wg ⟨rfl, og⟩
      refine hK _ _ (Same.only og (by have := QB.out.size; have := HBB.out; omega)) ?_
      clear hK K
      try simp only [Act.put, List.setIfInBounds_toArray, List.set_cons_zero, List.set_cons_succ]
      have OR := hid (OR.out.only og (by simp)); have QB := hid (QB.out.trans og); have HL := hid (HL.out.only_nil og); have V0 := hid (V0.out.only_nil og); clear og
      refine rgn.Walk.es ?_
      refine rgn.stepE rfl rfl (fun K hK => ?_)
      go_simp
      refine (callsOnly (ref.get41 _ (some ⟨b, off, none⟩) n c l HL.out 4 (by omega) (by omega))).mono ?_
      rw [P4.out]
      rintro x1 wg ⟨rfl, og⟩
      refine hK _ _ (Same.only og (by have := QB.out.size; have := HBB.out; omega)) ?_
      clear hK K
      try simp only [Act.put, List.setIfInBounds_toArray, List.set_cons_zero, List.set_cons_succ]
      have OR := hid (OR.out.only og (by simp)); have QB := hid (QB.out.trans og); have HL := hid (HL.out.only_nil og); have V0 := hid (V0.out.only_nil og); clear og
      refine rgn.Walk.es ?_
      refine rgn.stepE rfl rfl (fun K hK => ?_)
      go_simp
      refine (callsOnly (ref.get41 _ (some ⟨b, off, none⟩) n c l HL.out 8 (by omega) (by omega))).mono ?_
      rw [P8.out]
      rintro x1 wg ⟨rfl, og⟩
      refine hK _ _ (Same.only og (by have := QB.out.size; have := HBB.out; omega)) ?_
      clear hK K
      try simp only [Act.put, List.setIfInBounds_toArray, List.set_cons_zero, List.set_cons_succ]
      have OR := hid (OR.out.only og (by simp)); have QB := hid (QB.out.trans og); have HL := hid (HL.out.only_nil og); have V0 := hid (V0.out.only_nil og); clear og
      refine rgn.Walk.es ?_
      refine rgn.stepE rfl rfl (fun K hK => ?_)
      go_simp
      refine (callsOnly (ref.get21 _ (some ⟨b, off, none⟩) n c l HL.out 14 (by omega) (by omega))).mono ?_
      rw [P14.out]
      rintro x1 wg ⟨rfl, og⟩
      refine hK _ _ (Same.only og (by have := QB.out.size; have := HBB.out; omega)) ?_
      clear hK K
      try simp only [Act.put, List.setIfInBounds_toArray, List.set_cons_zero, List.set_cons_succ]
      have OR := hid (OR.out.only og (by simp)); have QB := hid (QB.out.trans og); have HL := hid (HL.out.only_nil og); have V0 := hid (V0.out.only_nil og); clear og
      refine rgn.Walk.es ?_
      refine rgn.stepE rfl rfl (fun K hK => ?_)
      refine opApp rfl (.tmp 70) (.tmp 73) _ rfl hlp.elemB (w.heap.size + 1) _ [] rfl V0.out AD (n - (20 + o)) cD (l.drop (20 + o)) (by rw [← HAD.out, ← HCD.out]; first | rfl | go_simp) (HPD.out _ HL.out) HAN.out (by simp; omega) (by unfold maxLen; simp; omega) OR.out.lt ?_
      intro v1 w1 hv hg hb
      refine hK _ _ (Same.grown hg (by have := QB.out.size; have := HBB.out; omega) (fun e => by have := (V0.out.lt _ e).1; have h9 := HBB.out; omega)) ?_
      clear hK K
      try simp only [Act.put, List.setIfInBounds_toArray, List.set_cons_zero, List.set_cons_succ]
      have QB := hid (QB.out.of_grown hg (fun k hk => .inr (by have := (V0.out.lt k hk).1; omega))); have HL := hid (HL.out.grown hg (fun bb oo e hlt e2 => by have := (V0.out.lt _ e2).1; have h9 := HBB.out; injection e with e; injection e with e3 e4; omega)); have OR := hid (OR.out.grown hg (fun e => by have := (V0.out.lt _ e).1; omega)); have V1 : Hid (Own .u8 5 w1 (w.heap.size + 1) v1 (l.drop (20 + o))) := hid hv; clear hv hg hb
      obtain ⟨A5, c5, ev5, _, _, _, _⟩ := V1.out.slice
      rw [List.length_drop, HLen.out] at ev5
      subst ev5
      refine rgn.Walk.ys (v := ?_) rfl rfl rfl ?_ ?_
      rotate_left 1
      · intro W' hW'
        go_simp
        try with_reducible rfl
      try simp only [Act.put, List.setIfInBounds_toArray, List.set_cons_zero, List.set_cons_succ]
      refine rgn.Walk.es ?_
      refine rgn.stepE rfl rfl (fun K hK => ?_)
      refine opStoreOb rfl 26 _ _ rfl w.heap.size #[.int .u32 fr, .int .i64 v0, .int .u32 to, .int .i64 v2, .int .u32 v4, .int .u32 v8, .int .i64 (y % 64), .int .i64 v14, .int .i64 ms, .int .i64 sc, .slice A5 (n - (20 + o)) c5] rfl rfl _ _ OR.out rfl (by kernel_rfl) (by simp [Value.oneCell']) (fun W9 hW9 => ?_)
      refine hK _ _ (((Only.refl [w.heap.size] _).eq_all hW9 (Or.inl (by simp))).block b (by have := QB.out.size; have := HBB.out; omega) (by simp; have := HBB.out; omega)) ?_
      clear hK K
      try simp only [Act.put, List.setIfInBounds_toArray, List.set_cons_zero, List.set_cons_succ]
      have OR5 := hid (OR.out.eq_all hW9 rfl); have QB5 := hid (QB.out.eq_all hW9 (Or.inr (by simp))); have QV5 : Hid (Only [w.heap.size] _ W9) := hid ((Only.refl _ _).eq_all hW9 (Or.inl (by simp))); clear hW9
      refine rgn.Walk.es ?_
      refine rgn.stepE rfl rfl (fun K hK => ?_)
      go_simp
      refine hK _ _ ((Same.refl b) _) ?_
      clear hK K
      try simp only [Act.put, List.setIfInBounds_toArray, List.set_cons_zero, List.set_cons_succ]
      refine rgn.Walk.zs (NoPanic.normal ?_)
      have HV5 := hid (V1.out.only QV5.out (fun i hi => by have h9 := (V1.out.lt i hi).1; simp; omega))
      have r0 := OR5.out.cell 0; have r1 := OR5.out.cell 1; have r2 := OR5.out.cell 2; have r3 := OR5.out.cell 3; have r4 := OR5.out.cell 4; have r5 := OR5.out.cell 5; have r6 := OR5.out.cell 6; have r7 := OR5.out.cell 7; have r8 := OR5.out.cell 8; have r9 := OR5.out.cell 9; have r10 := OR5.out.cell 10
      go_wp2
      all_goals exact bodyPost_ret (v := .tuple #[.agg #[.int .u32 fr, .int .i64 v0, .int .u32 to, .int .i64 v2, .int .u32 v4, .int .u32 v8, .int .i64 (y % 64), .int .i64 v14, .int .i64 ms, .int .i64 sc, .slice A5 (n - (20 + o)) c5], .int .i64 0]) (by simp [results, Try.results17, go_sem, *]) rfl (by rw [← P0.out, ← P2.out, ← P4.out, ← P8.out, ← P14.out, ← HY.out]; exact DEnds.yes HE.out HRO.out (by have h9 := HV5.out.mono_base (show w.heap.size ≤ w.heap.size + 1 by omega); rw [HTO.out]; exact h9) QB5.out)
  · refine rgn.stepE rfl rfl (fun K hK => ?_)
    go_simp
    refine hK _ _ (Same.alloc _ (by have := QB.out.size; have := HBB.out; omega)) ?_
    clear hK K
    try simp only [Act.put, List.setIfInBounds_toArray, List.set_cons_zero, List.set_cons_succ]
    have V0 : Hid (Own .u8 5 _ (w.heap.size + 1) _ []) := hid (Own.lit .u8 5 _ (w.heap.size + 1) [] #[] 0 rfl rfl OR.out.lt (by simp) (by simp)); have OR := hid (OR.out.alloc (.cells #[] 5)); have QB := hid (QB.out.alloc (.cells #[] 5)); have HL := hid (HL.out.alloc (.cells #[] 5))
    refine rgn.Walk.es ?_
    refine rgn.stepE rfl rfl (fun K hK => ?_)
    go_simp
    refine (callsOnly (ref.get21 _ (some ⟨b, off, none⟩) n c l HL.out 0 (by omega) (by omega))).mono ?_
    rw [P0.out]
    rintro x1 wg ⟨rfl, og⟩
    refine hK _ _ (Same.only og (by have := QB.out.size; have := HBB.out; omega)) ?_
    clear hK K
    try simp only [Act.put, List.setIfInBounds_toArray, List.set_cons_zero, List.set_cons_succ]
    have OR := hid (OR.out.only og (by simp)); have QB := hid (QB.out.trans og); have HL := hid (HL.out.only_nil og); have V0 := hid (V0.out.only_nil og); clear og
    refine rgn.Walk.es ?_
    refine rgn.stepE rfl rfl (fun K hK => ?_)
    go_simp
    refine (callsOnly (ref.get21 _ (some ⟨b, off, none⟩) n c l HL.out 2 (by omega) (by omega))).mono ?_
    rw [P2.out]
    rintro x1 wg ⟨rfl, og⟩
    refine hK _ _ (Same.only og (by have := QB.out.size; have := HBB.out; omega)) ?_
    clear hK K
    try simp only [Act.put, List.setIfInBounds_toArray, List.set_cons_zero, List.set_cons_succ]
    have OR := hid (OR.out.only og (by simp)); have QB := hid (QB.out.trans og); have HL := hid (HL.out.only_nil og); have V0 := hid (V0.out.only_nil og); clear og
    refine rgn.Walk.es ?_
    refine rgn.stepE rfl rfl (fun K hK => ?_)
    go_simp
    refine (callsOnly (ref.get41 _ (some ⟨b, off, none⟩) n c l HL.out 4 (by omega) (by omega))).mono ?_
    rw [P4.out]
    rintro x1 wg ⟨rfl, og⟩
    refine hK _ _ (Same.only og (by have := QB.out.size; have := HBB.out; omega)) ?_
    clear hK K
    try simp only [Act.put, List.setIfInBounds_toArray, List.set_cons_zero, List.set_cons_succ]
    have OR := hid (OR.out.only og (by simp)); have QB := hid (QB.out.trans og); have HL := hid (HL.out.only_nil og); have V0 := hid (V0.out.only_nil og); clear og
    refine rgn.Walk.es ?_
    refine rgn.stepE rfl rfl (fun K hK => ?_)
    go_simp
    refine (callsOnly (ref.get41 _ (some ⟨b, off, none⟩) n c l HL.out 8 (by omega) (by omega))).mono ?_
    rw [P8.out]
    rintro x1 wg ⟨rfl, og⟩
    refine hK _ _ (Same.only og (by have := QB.out.size; have := HBB.out; omega)) ?_
    clear hK K
    try simp only [Act.put, List.setIfInBounds_toArray, List.set_cons_zero, List.set_cons_succ]
    have OR := hid (OR.out.only og (by simp)); have QB := hid (QB.out.trans og); have HL := hid (HL.out.only_nil og); have V0 := hid (V0.out.only_nil og); clear og
    refine rgn.Walk.es ?_
    refine rgn.stepE rfl rfl (fun K hK => ?_)
    go_simp
    refine (callsOnly (ref.get21 _ (some ⟨b, off, none⟩) n c l HL.out 14 (by omega) (by omega))).mono ?_
    rw [P14.out]
    rintro x1 wg ⟨rfl, og⟩
    refine hK _ _ (Same.only og (by have := QB.out.size; have := HBB.out; omega)) ?_
    clear hK K
    try simp only [Act.put, List.setIfInBounds_toArray, List.set_cons_zero, List.set_cons_succ]
    have OR := hid (OR.out.only og (by simp)); have QB := hid (QB.out.trans og); have HL := hid (HL.out.only_nil og); have V0 := hid (V0.out.only_nil og); clear og
    refine rgn.Walk.es ?_
    refine rgn.stepE rfl rfl (fun K hK => ?_)
    refine opApp rfl (.tmp 70) (.tmp 73) _ rfl hlp.elemB (w.heap.size + 1) _ [] rfl V0.out AD (n - (20 + o)) cD (l.drop (20 + o)) (by rw [← HAD.out, ← HCD.out]; first | rfl | go_simp) (HPD.out _ HL.out) HAN.out (by simp; omega) (by unfold maxLen; simp; omega) OR.out.lt ?_
    intro v1 w1 hv hg hb
    refine hK _ _ (Same.grown hg (by have := QB.out.size; have := HBB.out; omega) (fun e => by have := (V0.out.lt _ e).1; have h9 := HBB.out; omega)) ?_
    clear hK K
    try simp only [Act.put, List.setIfInBounds_toArray, List.set_cons_zero, List.set_cons_succ]
    have QB := hid (QB.out.of_grown hg (fun k hk => .inr (by have := (V0.out.lt k hk).1; omega))); have HL := hid (HL.out.grown hg (fun bb oo e hlt e2 => by have := (V0.out.lt _ e2).1; have h9 := HBB.out; injection e with e; injection e with e3 e4; omega)); have OR := hid (OR.out.grown hg (fun e => by have := (V0.out.lt _ e).1; omega)); have V1 : Hid (Own .u8 5 w1 (w.heap.size + 1) v1 (l.drop (20 + o))) := hid hv; clear hv hg hb
    obtain ⟨A5, c5, ev5, _, _, _, _⟩ := V1.out.slice
    rw [List.length_drop, HLen.out] at ev5
    subst ev5
    refine rgn.Walk.ys (v := ?_) rfl rfl rfl ?_ ?_
    rotate_left 1
    · intro W' hW'
      go_simp
      try with_reducible rfl
    try simp only [Act.put, List.setIfInBounds_toArray, List.set_cons_zero, List.set_cons_succ]
    refine rgn.Walk.es ?_
    refine rgn.stepE rfl rfl (fun K hK => ?_)
    refine opStoreOb rfl 26 _ _ rfl w.heap.size #[.int .u32 fr, .int .i64 v0, .int .u32 to, .int .i64 v2, .int .u32 v4, .int .u32 v8, .int .i64 (y % 64), .int .i64 v14, .int .i64 ms, .int .i64 sc, .slice A5 (n - (20 + o)) c5] rfl rfl _ _ OR.out rfl (by kernel_rfl) (by simp [Value.oneCell']) (fun W9 hW9 => ?_)
    refine hK _ _ (((Only.refl [w.heap.size] _).eq_all hW9 (Or.inl (by simp))).block b (by have := QB.out.size; have := HBB.out; omega) (by simp; have := HBB.out; omega)) ?_
    clear hK K
    try simp only [Act.put, List.setIfInBounds_toArray, List.set_cons_zero, List.set_cons_succ]
    have OR5 := hid (OR.out.eq_all hW9 rfl); have QB5 := hid (QB.out.eq_all hW9 (Or.inr (by simp))); have QV5 : Hid (Only [w.heap.size] _ W9) := hid ((Only.refl _ _).eq_all hW9 (Or.inl (by simp))); clear hW9
    refine rgn.Walk.es ?_
    refine rgn.stepE rfl rfl (fun K hK => ?_)
    go_simp
    refine hK _ _ ((Same.refl b) _) ?_
    clear hK K
    try simp only [Act.put, List.setIfInBounds_toArray, List.set_cons_zero, List.set_cons_succ]
    refine rgn.Walk.zs (NoPanic.normal ?_)
    have HV5 := hid (V1.out.only QV5.out (fun i hi => by have h9 := (V1.out.lt i hi).1; simp; omega))
    have r0 := OR5.out.cell 0; have r1 := OR5.out.cell 1; have r2 := OR5.out.cell 2; have r3 := OR5.out.cell 3; have r4 := OR5.out.cell 4; have r5 := OR5.out.cell 5; have r6 := OR5.out.cell 6; have r7 := OR5.out.cell 7; have r8 := OR5.out.cell 8; have r9 := OR5.out.cell 9; have r10 := OR5.out.cell 10
    go_wp2
    all_goals exact bodyPost_ret (v := .tuple #[.agg #[.int .u32 fr, .int .i64 v0, .int .u32 to, .int .i64 v2, .int .u32 v4, .int .u32 v8, .int .i64 (y % 64), .int .i64 v14, .int .i64 ms, .int .i64 sc, .slice A5 (n - (20 + o)) c5], .int .i64 0]) (by simp [results, Try.results17, go_sem, *]) rfl (by rw [← P0.out, ← P2.out, ← P4.out, ← P8.out, ← P14.out, ← HY.out]; exact DEnds.yes HE.out HRO.out (by have h9 := HV5.out.mono_base (show w.heap.size ≤ w.heap.size + 1 by omega); rw [HTO.out]; exact h9) QB5.out)
/-- The document's Decode, of any bytes. -/
theorem rdecAny (w : World) (fr to : Int) (A : Option Addr) (n c : Nat) (l : List Int) (hl : Rd .u8 w A n l) (hc0 : A = none → c = 0) (hnc : n ≤ c) (hcm : c ≤ 9223372036854775807) (hn : n ≤ 70000) :
    Calls Try.prog 17 #[.int .u32 fr, .int .u32 to, .slice A n c] w (DEnds w fr to l) := by
  have hll := hl.len
  by_cases h1 : 65515 < n
  · exact rdec5 w fr to A n c l hl hc0 hnc hcm hn h1
  · by_cases h2 : n < 20
    · exact rdec2 w fr to A n c l hl hc0 hnc hcm hn h1 h2
    · by_cases h3 : headS l < 20
      · exact rdec3 w fr to A n c l hl hc0 hnc hcm hn h1 h2 h3
      · by_cases h4 : (n : Int) < headS l
        · exact rdec2b w fr to A n c l hl hc0 hnc hcm hn h1 h2 h3 h4
        · by_cases hs : oct.sumF (psd.psd fr to 6 n ++ l) = 0
          · have w12 := u8Bd (hl.getD_wf 12 (by omega))
            have hh : headS l = l.getD 12 0 / 16 * 4 := rfl
            obtain ⟨o, ho⟩ : ∃ o : Nat, headS l = 20 + (o : Int) := ⟨(headS l).toNat - 20, by omega⟩
            have hoo : optS l = (l.drop 20).take o := by unfold optS; rw [ho]; congr 1; omega
            have hp : dEr fr to l = if ropO (optS l) = none then 3 else 0 := by unfold dEr; rw [hll, if_neg h1, if_neg h2, if_neg h3, if_neg h4, if_neg (by rw [show psd fr to 6 n = psd.psd fr to 6 n from rfl, hs]; simp)]
            have hrr := rop_ropO (optS l)
            cases hro : ropO (optS l) with
            | none =>
              rw [hro, hoo] at hrr
              exact rdecNo w fr to A n c l hl hc0 hnc hcm hn h1 h2 h3 h4 o ho hs hrr (hid (by rw [hp, hro, if_pos rfl]))
            | some q =>
              obtain ⟨ms, sc⟩ := q
              have hrr2 := hrr
              rw [hro, hoo] at hrr
              exact rdecYes w fr to A n c l hl hc0 hnc hcm hn h1 h2 h3 h4 o ho hs ms sc hrr (hid (by rw [hp, hro, if_neg (by simp)])) (hid hro)
          · exact rdec4 w fr to A n c l hl hc0 hnc hcm hn h1 h2 h3 h4 hs
end Go.Proofs.Ytkpdgfimibmoeaa.seg
