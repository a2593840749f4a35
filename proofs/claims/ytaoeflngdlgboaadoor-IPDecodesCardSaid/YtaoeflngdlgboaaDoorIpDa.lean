/-
  Chapter 6 (ipv4): what the document refuses of any bytes, by a walk of the text. Conditions: none but those typed.
-/
import Derived.Test.YtaoeflngdlgboaaDoorIpX
import Derived.Test.YtaoeflngdlgboaaDoorOld
namespace Go.Proofs.YtaoeflngdlgboaaDoor.ip
set_option linter.unusedVariables false
set_option linter.unusedSimpArgs false
open Go.ChangeShapes Go.WideShapes Go.ChangeAt Go.RowKit Go.IntWalk Go.Lib
theorem only_drewN {W w' : World} {m : Nat} (h : w' = W.drewN m) : Only [] W w' := by rw [h]; exact (Only.refl [] _).drewN m
set_option maxRecDepth 100000 in
set_option maxHeartbeats 1000000 in
theorem r1 (w : World) (A : Option Addr) (n c : Nat) (h : n < 20) : Calls Tryd.prog 19 #[.slice A n c] w fun x w' => x = .returned (.tuple #[.agg #[.int .i64 0, .int .i64 0, .bool false, .bool false, .int .i64 0, .int .i64 0, .int .i64 0, .int .u32 0, .int .u32 0, .slice none 0 0, .slice none 0 0], .int .i64 2]) ∧ Only [] w w' := by
  have QB : Hid (Only [] w ((w.alloc (.cells #[.int .i64 0, .int .i64 0, .bool false, .bool false, .int .i64 0, .int .i64 0, .int .i64 0, .int .u32 0, .int .u32 0, .slice none 0 0, .slice none 0 0] 26)).alloc (.cells #[.int .i64 0, .int .i64 0, .bool false, .bool false, .int .i64 0, .int .i64 0, .int .i64 0, .int .u32 0, .int .u32 0, .slice none 0 0, .slice none 0 0] 26))) := hid (((Only.refl [] w).alloc _).alloc _)
  have OR : Hid (Ob ((w.alloc (.cells #[.int .i64 0, .int .i64 0, .bool false, .bool false, .int .i64 0, .int .i64 0, .int .i64 0, .int .u32 0, .int .u32 0, .slice none 0 0, .slice none 0 0] 26)).alloc (.cells #[.int .i64 0, .int .i64 0, .bool false, .bool false, .int .i64 0, .int .i64 0, .int .i64 0, .int .u32 0, .int .u32 0, .slice none 0 0, .slice none 0 0] 26)) w.heap.size 26 #[.int .i64 0, .int .i64 0, .bool false, .bool false, .int .i64 0, .int .i64 0, .int .i64 0, .int .u32 0, .int .u32 0, .slice none 0 0, .slice none 0 0]) := hid ((Ob.new _ _ _).alloc _)
  have OP : Hid (Ob ((w.alloc (.cells #[.int .i64 0, .int .i64 0, .bool false, .bool false, .int .i64 0, .int .i64 0, .int .i64 0, .int .u32 0, .int .u32 0, .slice none 0 0, .slice none 0 0] 26)).alloc (.cells #[.int .i64 0, .int .i64 0, .bool false, .bool false, .int .i64 0, .int .i64 0, .int .i64 0, .int .u32 0, .int .u32 0, .slice none 0 0, .slice none 0 0] 26)) (w.heap.size + 1) 26 #[.int .i64 0, .int .i64 0, .bool false, .bool false, .int .i64 0, .int .i64 0, .int .i64 0, .int .u32 0, .int .u32 0, .slice none 0 0, .slice none 0 0]) := hid (by have := Ob.new (w.alloc (.cells #[.int .i64 0, .int .i64 0, .bool false, .bool false, .int .i64 0, .int .i64 0, .int .i64 0, .int .u32 0, .int .u32 0, .slice none 0 0, .slice none 0 0] 26)) 26 #[.int .i64 0, .int .i64 0, .bool false, .bool false, .int .i64 0, .int .i64 0, .int .i64 0, .int .u32 0, .int .u32 0, .slice none 0 0, .slice none 0 0]; simpa using this)
  have d1 : decide ((n : Int) < 20) = true := decide_eq_true (by omega)
  go_enter Tryd.func19, Tryd.ntmps19
  go_wp2_with (first | (refine wp_loadOb rfl 26 (.tmp 4) rfl (w.heap.size + 1) rfl _ 26 OP.out Tryd.underlying26 rfl (by kernel_rfl) ?_; try simp only [Act.put, List.setIfInBounds_toArray, List.set_cons_zero, List.set_cons_succ]) | (refine wp_storeOb rfl 26 _ _ rfl w.heap.size _ rfl rfl _ _ OR.out rfl (by kernel_rfl) (by simp [Value.oneCell']) (fun W5 hW5 => ?_); try simp only [Act.put, List.setIfInBounds_toArray, List.set_cons_zero, List.set_cons_succ]; have OR5 := hid (OR.out.eq_all hW5 rfl); have QB5 := hid (QB.out.eq_all hW5 (Or.inr (by simp))); clear hW5) | fail)
  have r0 := OR5.out.cell 0; have r1 := OR5.out.cell 1; have r2 := OR5.out.cell 2; have r3 := OR5.out.cell 3; have r4 := OR5.out.cell 4; have r5 := OR5.out.cell 5; have r6 := OR5.out.cell 6; have r7 := OR5.out.cell 7; have r8 := OR5.out.cell 8; have r9 := OR5.out.cell 9; have r10 := OR5.out.cell 10
  exact bodyPost_ret (v := .tuple #[.agg #[.int .i64 0, .int .i64 0, .bool false, .bool false, .int .i64 0, .int .i64 0, .int .i64 0, .int .u32 0, .int .u32 0, .slice none 0 0, .slice none 0 0], .int .i64 2]) (by simp [results, Tryd.results19, go_sem, *]) rfl ⟨rfl, QB5.out⟩
set_option maxRecDepth 100000 in
set_option maxHeartbeats 8000000 in
theorem r2 (w : World) (b off n c : Nat) (x0 p q : Int) (hh tt : Nat) (l : List Int) (hl : Rd .u8 w (some ⟨b, off, none⟩) n l) (h20 : 20 ≤ n) (hn : n ≤ 70000) (hnc : n ≤ c) (hcm : c ≤ maxLen) (hbb : b < w.heap.size)
    (c0 : ((w.alloc (.cells #[.int .i64 0, .int .i64 0, .bool false, .bool false, .int .i64 0, .int .i64 0, .int .i64 0, .int .u32 0, .int .u32 0, .slice none 0 0, .slice none 0 0] 26)).alloc (.cells #[.int .i64 0, .int .i64 0, .bool false, .bool false, .int .i64 0, .int .i64 0, .int .i64 0, .int .u32 0, .int .u32 0, .slice none 0 0, .slice none 0 0] 26)).cell? ⟨b, off, none⟩ = some (.int .u8 x0)) (w0 : 0 ≤ x0 ∧ x0 ≤ 255) (hp : x0 / 16 = p) (hpt : x0.tdiv 16 = p) (hq : x0 % 16 = q) (hqt : x0.tmod 16 = q) (hq4 : q * 4 = (hh : Int)) (q0 : 0 ≤ q ∧ q ≤ 15) (hne : p ≠ 4) :
    Calls Tryd.prog 19 #[.slice (some ⟨b, off, none⟩) n c] w fun x w' => x = .returned (.tuple #[.agg #[.int .i64 0, .int .i64 0, .bool false, .bool false, .int .i64 0, .int .i64 0, .int .i64 0, .int .u32 0, .int .u32 0, .slice none 0 0, .slice none 0 0], .int .i64 3]) ∧ Only [] w w' := by
  have QB : Hid (Only [] w ((w.alloc (.cells #[.int .i64 0, .int .i64 0, .bool false, .bool false, .int .i64 0, .int .i64 0, .int .i64 0, .int .u32 0, .int .u32 0, .slice none 0 0, .slice none 0 0] 26)).alloc (.cells #[.int .i64 0, .int .i64 0, .bool false, .bool false, .int .i64 0, .int .i64 0, .int .i64 0, .int .u32 0, .int .u32 0, .slice none 0 0, .slice none 0 0] 26))) := hid (((Only.refl [] w).alloc _).alloc _)
  have OR : Hid (Ob ((w.alloc (.cells #[.int .i64 0, .int .i64 0, .bool false, .bool false, .int .i64 0, .int .i64 0, .int .i64 0, .int .u32 0, .int .u32 0, .slice none 0 0, .slice none 0 0] 26)).alloc (.cells #[.int .i64 0, .int .i64 0, .bool false, .bool false, .int .i64 0, .int .i64 0, .int .i64 0, .int .u32 0, .int .u32 0, .slice none 0 0, .slice none 0 0] 26)) w.heap.size 26 #[.int .i64 0, .int .i64 0, .bool false, .bool false, .int .i64 0, .int .i64 0, .int .i64 0, .int .u32 0, .int .u32 0, .slice none 0 0, .slice none 0 0]) := hid ((Ob.new _ _ _).alloc _)
  have OP : Hid (Ob ((w.alloc (.cells #[.int .i64 0, .int .i64 0, .bool false, .bool false, .int .i64 0, .int .i64 0, .int .i64 0, .int .u32 0, .int .u32 0, .slice none 0 0, .slice none 0 0] 26)).alloc (.cells #[.int .i64 0, .int .i64 0, .bool false, .bool false, .int .i64 0, .int .i64 0, .int .i64 0, .int .u32 0, .int .u32 0, .slice none 0 0, .slice none 0 0] 26)) (w.heap.size + 1) 26 #[.int .i64 0, .int .i64 0, .bool false, .bool false, .int .i64 0, .int .i64 0, .int .i64 0, .int .u32 0, .int .u32 0, .slice none 0 0, .slice none 0 0]) := hid (by have := Ob.new (w.alloc (.cells #[.int .i64 0, .int .i64 0, .bool false, .bool false, .int .i64 0, .int .i64 0, .int .i64 0, .int .u32 0, .int .u32 0, .slice none 0 0, .slice none 0 0] 26)) 26 #[.int .i64 0, .int .i64 0, .bool false, .bool false, .int .i64 0, .int .i64 0, .int .i64 0, .int .u32 0, .int .u32 0, .slice none 0 0, .slice none 0 0]; simpa using this)
  have HL := hid hl; clear hl
  have HBB := hid hbb; clear hbb
  have d1 : decide ((n : Int) < 20) = false := decide_eq_false (by omega)
  have i0 : (0 : Int) < n := by omega
  have d2 : (p != 4) = true := by simpa using hne
  clear hne
  go_enter Tryd.func19, Tryd.ntmps19
  go_wp2_with (first | (refine wp_loadOb rfl 26 (.tmp 4) rfl (w.heap.size + 1) rfl _ 26 OP.out Tryd.underlying26 rfl (by kernel_rfl) ?_; try simp only [Act.put, List.setIfInBounds_toArray, List.set_cons_zero, List.set_cons_succ]) | (refine wp_storeOb rfl 26 _ _ rfl w.heap.size _ rfl rfl _ _ OR.out rfl (by kernel_rfl) (by simp [Value.oneCell']) (fun W5 hW5 => ?_); try simp only [Act.put, List.setIfInBounds_toArray, List.set_cons_zero, List.set_cons_succ]; have OR5 := hid (OR.out.eq_all hW5 rfl); have QB5 := hid (QB.out.eq_all hW5 (Or.inr (by simp))); clear hW5) | fail)
  have r0 := OR5.out.cell 0; have r1 := OR5.out.cell 1; have r2 := OR5.out.cell 2; have r3 := OR5.out.cell 3; have r4 := OR5.out.cell 4; have r5 := OR5.out.cell 5; have r6 := OR5.out.cell 6; have r7 := OR5.out.cell 7; have r8 := OR5.out.cell 8; have r9 := OR5.out.cell 9; have r10 := OR5.out.cell 10
  exact bodyPost_ret (v := .tuple #[.agg #[.int .i64 0, .int .i64 0, .bool false, .bool false, .int .i64 0, .int .i64 0, .int .i64 0, .int .u32 0, .int .u32 0, .slice none 0 0, .slice none 0 0], .int .i64 3]) (by simp [results, Tryd.results19, go_sem, *]) rfl ⟨rfl, QB5.out⟩
set_option maxRecDepth 100000 in
set_option maxHeartbeats 8000000 in
theorem r3 (w : World) (b off n c : Nat) (x0 p q : Int) (hh tt : Nat) (l : List Int) (hl : Rd .u8 w (some ⟨b, off, none⟩) n l) (h20 : 20 ≤ n) (hn : n ≤ 70000) (hnc : n ≤ c) (hcm : c ≤ maxLen) (hbb : b < w.heap.size)
    (c0 : ((w.alloc (.cells #[.int .i64 0, .int .i64 0, .bool false, .bool false, .int .i64 0, .int .i64 0, .int .i64 0, .int .u32 0, .int .u32 0, .slice none 0 0, .slice none 0 0] 26)).alloc (.cells #[.int .i64 0, .int .i64 0, .bool false, .bool false, .int .i64 0, .int .i64 0, .int .i64 0, .int .u32 0, .int .u32 0, .slice none 0 0, .slice none 0 0] 26)).cell? ⟨b, off, none⟩ = some (.int .u8 x0)) (w0 : 0 ≤ x0 ∧ x0 ≤ 255) (hp : x0 / 16 = p) (hpt : x0.tdiv 16 = p) (hq : x0 % 16 = q) (hqt : x0.tmod 16 = q) (hq4 : q * 4 = (hh : Int)) (q0 : 0 ≤ q ∧ q ≤ 15) (hp4 : p = 4) (h3 : hh < 20) :
    Calls Tryd.prog 19 #[.slice (some ⟨b, off, none⟩) n c] w fun x w' => x = .returned (.tuple #[.agg #[.int .i64 0, .int .i64 0, .bool false, .bool false, .int .i64 0, .int .i64 0, .int .i64 0, .int .u32 0, .int .u32 0, .slice none 0 0, .slice none 0 0], .int .i64 3]) ∧ Only [] w w' := by
  have QB : Hid (Only [] w ((w.alloc (.cells #[.int .i64 0, .int .i64 0, .bool false, .bool false, .int .i64 0, .int .i64 0, .int .i64 0, .int .u32 0, .int .u32 0, .slice none 0 0, .slice none 0 0] 26)).alloc (.cells #[.int .i64 0, .int .i64 0, .bool false, .bool false, .int .i64 0, .int .i64 0, .int .i64 0, .int .u32 0, .int .u32 0, .slice none 0 0, .slice none 0 0] 26))) := hid (((Only.refl [] w).alloc _).alloc _)
  have OR : Hid (Ob ((w.alloc (.cells #[.int .i64 0, .int .i64 0, .bool false, .bool false, .int .i64 0, .int .i64 0, .int .i64 0, .int .u32 0, .int .u32 0, .slice none 0 0, .slice none 0 0] 26)).alloc (.cells #[.int .i64 0, .int .i64 0, .bool false, .bool false, .int .i64 0, .int .i64 0, .int .i64 0, .int .u32 0, .int .u32 0, .slice none 0 0, .slice none 0 0] 26)) w.heap.size 26 #[.int .i64 0, .int .i64 0, .bool false, .bool false, .int .i64 0, .int .i64 0, .int .i64 0, .int .u32 0, .int .u32 0, .slice none 0 0, .slice none 0 0]) := hid ((Ob.new _ _ _).alloc _)
  have OP : Hid (Ob ((w.alloc (.cells #[.int .i64 0, .int .i64 0, .bool false, .bool false, .int .i64 0, .int .i64 0, .int .i64 0, .int .u32 0, .int .u32 0, .slice none 0 0, .slice none 0 0] 26)).alloc (.cells #[.int .i64 0, .int .i64 0, .bool false, .bool false, .int .i64 0, .int .i64 0, .int .i64 0, .int .u32 0, .int .u32 0, .slice none 0 0, .slice none 0 0] 26)) (w.heap.size + 1) 26 #[.int .i64 0, .int .i64 0, .bool false, .bool false, .int .i64 0, .int .i64 0, .int .i64 0, .int .u32 0, .int .u32 0, .slice none 0 0, .slice none 0 0]) := hid (by have := Ob.new (w.alloc (.cells #[.int .i64 0, .int .i64 0, .bool false, .bool false, .int .i64 0, .int .i64 0, .int .i64 0, .int .u32 0, .int .u32 0, .slice none 0 0, .slice none 0 0] 26)) 26 #[.int .i64 0, .int .i64 0, .bool false, .bool false, .int .i64 0, .int .i64 0, .int .i64 0, .int .u32 0, .int .u32 0, .slice none 0 0, .slice none 0 0]; simpa using this)
  have HL := hid hl; clear hl
  have HBB := hid hbb; clear hbb
  have d1 : decide ((n : Int) < 20) = false := decide_eq_false (by omega)
  have i0 : (0 : Int) < n := by omega
  subst hp4
  have d2 : ((4 : Int) != 4) = false := rfl
  have d3 : (hh : Int) < 20 := by omega
  go_enter Tryd.func19, Tryd.ntmps19
  go_wp2_with (first | (refine wp_loadOb rfl 26 (.tmp 4) rfl (w.heap.size + 1) rfl _ 26 OP.out Tryd.underlying26 rfl (by kernel_rfl) ?_; try simp only [Act.put, List.setIfInBounds_toArray, List.set_cons_zero, List.set_cons_succ]) | (refine wp_storeOb rfl 26 _ _ rfl w.heap.size _ rfl rfl _ _ OR.out rfl (by kernel_rfl) (by simp [Value.oneCell']) (fun W5 hW5 => ?_); try simp only [Act.put, List.setIfInBounds_toArray, List.set_cons_zero, List.set_cons_succ]; have OR5 := hid (OR.out.eq_all hW5 rfl); have QB5 := hid (QB.out.eq_all hW5 (Or.inr (by simp))); clear hW5) | fail)
  have r0 := OR5.out.cell 0; have r1 := OR5.out.cell 1; have r2 := OR5.out.cell 2; have r3 := OR5.out.cell 3; have r4 := OR5.out.cell 4; have r5 := OR5.out.cell 5; have r6 := OR5.out.cell 6; have r7 := OR5.out.cell 7; have r8 := OR5.out.cell 8; have r9 := OR5.out.cell 9; have r10 := OR5.out.cell 10
  exact bodyPost_ret (v := .tuple #[.agg #[.int .i64 0, .int .i64 0, .bool false, .bool false, .int .i64 0, .int .i64 0, .int .i64 0, .int .u32 0, .int .u32 0, .slice none 0 0, .slice none 0 0], .int .i64 3]) (by simp [results, Tryd.results19, go_sem, *]) rfl ⟨rfl, QB5.out⟩
set_option maxRecDepth 100000 in
set_option maxHeartbeats 8000000 in
theorem r4 (w : World) (b off n c : Nat) (x0 p q : Int) (hh tt : Nat) (l : List Int) (hl : Rd .u8 w (some ⟨b, off, none⟩) n l) (h20 : 20 ≤ n) (hn : n ≤ 70000) (hnc : n ≤ c) (hcm : c ≤ maxLen) (hbb : b < w.heap.size)
    (c0 : ((w.alloc (.cells #[.int .i64 0, .int .i64 0, .bool false, .bool false, .int .i64 0, .int .i64 0, .int .i64 0, .int .u32 0, .int .u32 0, .slice none 0 0, .slice none 0 0] 26)).alloc (.cells #[.int .i64 0, .int .i64 0, .bool false, .bool false, .int .i64 0, .int .i64 0, .int .i64 0, .int .u32 0, .int .u32 0, .slice none 0 0, .slice none 0 0] 26)).cell? ⟨b, off, none⟩ = some (.int .u8 x0)) (w0 : 0 ≤ x0 ∧ x0 ≤ 255) (hp : x0 / 16 = p) (hpt : x0.tdiv 16 = p) (hq : x0 % 16 = q) (hqt : x0.tmod 16 = q) (hq4 : q * 4 = (hh : Int)) (q0 : 0 ≤ q ∧ q ≤ 15) (hp4 : p = 4) (h3 : 20 ≤ hh) (h4 : n < hh) :
    Calls Tryd.prog 19 #[.slice (some ⟨b, off, none⟩) n c] w fun x w' => x = .returned (.tuple #[.agg #[.int .i64 0, .int .i64 0, .bool false, .bool false, .int .i64 0, .int .i64 0, .int .i64 0, .int .u32 0, .int .u32 0, .slice none 0 0, .slice none 0 0], .int .i64 2]) ∧ Only [] w w' := by
  have QB : Hid (Only [] w ((w.alloc (.cells #[.int .i64 0, .int .i64 0, .bool false, .bool false, .int .i64 0, .int .i64 0, .int .i64 0, .int .u32 0, .int .u32 0, .slice none 0 0, .slice none 0 0] 26)).alloc (.cells #[.int .i64 0, .int .i64 0, .bool false, .bool false, .int .i64 0, .int .i64 0, .int .i64 0, .int .u32 0, .int .u32 0, .slice none 0 0, .slice none 0 0] 26))) := hid (((Only.refl [] w).alloc _).alloc _)
  have OR : Hid (Ob ((w.alloc (.cells #[.int .i64 0, .int .i64 0, .bool false, .bool false, .int .i64 0, .int .i64 0, .int .i64 0, .int .u32 0, .int .u32 0, .slice none 0 0, .slice none 0 0] 26)).alloc (.cells #[.int .i64 0, .int .i64 0, .bool false, .bool false, .int .i64 0, .int .i64 0, .int .i64 0, .int .u32 0, .int .u32 0, .slice none 0 0, .slice none 0 0] 26)) w.heap.size 26 #[.int .i64 0, .int .i64 0, .bool false, .bool false, .int .i64 0, .int .i64 0, .int .i64 0, .int .u32 0, .int .u32 0, .slice none 0 0, .slice none 0 0]) := hid ((Ob.new _ _ _).alloc _)
  have OP : Hid (Ob ((w.alloc (.cells #[.int .i64 0, .int .i64 0, .bool false, .bool false, .int .i64 0, .int .i64 0, .int .i64 0, .int .u32 0, .int .u32 0, .slice none 0 0, .slice none 0 0] 26)).alloc (.cells #[.int .i64 0, .int .i64 0, .bool false, .bool false, .int .i64 0, .int .i64 0, .int .i64 0, .int .u32 0, .int .u32 0, .slice none 0 0, .slice none 0 0] 26)) (w.heap.size + 1) 26 #[.int .i64 0, .int .i64 0, .bool false, .bool false, .int .i64 0, .int .i64 0, .int .i64 0, .int .u32 0, .int .u32 0, .slice none 0 0, .slice none 0 0]) := hid (by have := Ob.new (w.alloc (.cells #[.int .i64 0, .int .i64 0, .bool false, .bool false, .int .i64 0, .int .i64 0, .int .i64 0, .int .u32 0, .int .u32 0, .slice none 0 0, .slice none 0 0] 26)) 26 #[.int .i64 0, .int .i64 0, .bool false, .bool false, .int .i64 0, .int .i64 0, .int .i64 0, .int .u32 0, .int .u32 0, .slice none 0 0, .slice none 0 0]; simpa using this)
  have HL := hid hl; clear hl
  have HBB := hid hbb; clear hbb
  have d1 : decide ((n : Int) < 20) = false := decide_eq_false (by omega)
  have i0 : (0 : Int) < n := by omega
  subst hp4
  have d2 : ((4 : Int) != 4) = false := rfl
  have d3 : ¬ (hh : Int) < 20 := by omega
  have d4 : (n : Int) < (hh : Int) := by omega
  go_enter Tryd.func19, Tryd.ntmps19
  go_wp2_with (first | (refine wp_loadOb rfl 26 (.tmp 4) rfl (w.heap.size + 1) rfl _ 26 OP.out Tryd.underlying26 rfl (by kernel_rfl) ?_; try simp only [Act.put, List.setIfInBounds_toArray, List.set_cons_zero, List.set_cons_succ]) | (refine wp_storeOb rfl 26 _ _ rfl w.heap.size _ rfl rfl _ _ OR.out rfl (by kernel_rfl) (by simp [Value.oneCell']) (fun W5 hW5 => ?_); try simp only [Act.put, List.setIfInBounds_toArray, List.set_cons_zero, List.set_cons_succ]; have OR5 := hid (OR.out.eq_all hW5 rfl); have QB5 := hid (QB.out.eq_all hW5 (Or.inr (by simp))); clear hW5) | fail)
  have r0 := OR5.out.cell 0; have r1 := OR5.out.cell 1; have r2 := OR5.out.cell 2; have r3 := OR5.out.cell 3; have r4 := OR5.out.cell 4; have r5 := OR5.out.cell 5; have r6 := OR5.out.cell 6; have r7 := OR5.out.cell 7; have r8 := OR5.out.cell 8; have r9 := OR5.out.cell 9; have r10 := OR5.out.cell 10
  exact bodyPost_ret (v := .tuple #[.agg #[.int .i64 0, .int .i64 0, .bool false, .bool false, .int .i64 0, .int .i64 0, .int .i64 0, .int .u32 0, .int .u32 0, .slice none 0 0, .slice none 0 0], .int .i64 2]) (by simp [results, Tryd.results19, go_sem, *]) rfl ⟨rfl, QB5.out⟩
set_option maxRecDepth 100000 in
set_option maxHeartbeats 8000000 in
theorem r5 (w : World) (b off n c : Nat) (x0 p q : Int) (hh tt : Nat) (l : List Int) (hl : Rd .u8 w (some ⟨b, off, none⟩) n l) (h20 : 20 ≤ n) (hn : n ≤ 70000) (hnc : n ≤ c) (hcm : c ≤ maxLen) (hbb : b < w.heap.size)
    (c0 : ((w.alloc (.cells #[.int .i64 0, .int .i64 0, .bool false, .bool false, .int .i64 0, .int .i64 0, .int .i64 0, .int .u32 0, .int .u32 0, .slice none 0 0, .slice none 0 0] 26)).alloc (.cells #[.int .i64 0, .int .i64 0, .bool false, .bool false, .int .i64 0, .int .i64 0, .int .i64 0, .int .u32 0, .int .u32 0, .slice none 0 0, .slice none 0 0] 26)).cell? ⟨b, off, none⟩ = some (.int .u8 x0)) (w0 : 0 ≤ x0 ∧ x0 ≤ 255) (hp : x0 / 16 = p) (hpt : x0.tdiv 16 = p) (hq : x0 % 16 = q) (hqt : x0.tmod 16 = q) (hq4 : q * 4 = (hh : Int)) (q0 : 0 ≤ q ∧ q ≤ 15) (hp4 : p = 4) (h3 : 20 ≤ hh) (h4 : hh ≤ n) (h5 : tt < hh) (T2 : Hid (ref.get2 l 2 = (tt : Int))) :
    Calls Tryd.prog 19 #[.slice (some ⟨b, off, none⟩) n c] w fun x w' => x = .returned (.tuple #[.agg #[.int .i64 0, .int .i64 0, .bool false, .bool false, .int .i64 0, .int .i64 0, .int .i64 0, .int .u32 0, .int .u32 0, .slice none 0 0, .slice none 0 0], .int .i64 3]) ∧ Only [] w w' := by
  have QB : Hid (Only [] w ((w.alloc (.cells #[.int .i64 0, .int .i64 0, .bool false, .bool false, .int .i64 0, .int .i64 0, .int .i64 0, .int .u32 0, .int .u32 0, .slice none 0 0, .slice none 0 0] 26)).alloc (.cells #[.int .i64 0, .int .i64 0, .bool false, .bool false, .int .i64 0, .int .i64 0, .int .i64 0, .int .u32 0, .int .u32 0, .slice none 0 0, .slice none 0 0] 26))) := hid (((Only.refl [] w).alloc _).alloc _)
  have OR : Hid (Ob ((w.alloc (.cells #[.int .i64 0, .int .i64 0, .bool false, .bool false, .int .i64 0, .int .i64 0, .int .i64 0, .int .u32 0, .int .u32 0, .slice none 0 0, .slice none 0 0] 26)).alloc (.cells #[.int .i64 0, .int .i64 0, .bool false, .bool false, .int .i64 0, .int .i64 0, .int .i64 0, .int .u32 0, .int .u32 0, .slice none 0 0, .slice none 0 0] 26)) w.heap.size 26 #[.int .i64 0, .int .i64 0, .bool false, .bool false, .int .i64 0, .int .i64 0, .int .i64 0, .int .u32 0, .int .u32 0, .slice none 0 0, .slice none 0 0]) := hid ((Ob.new _ _ _).alloc _)
  have OP : Hid (Ob ((w.alloc (.cells #[.int .i64 0, .int .i64 0, .bool false, .bool false, .int .i64 0, .int .i64 0, .int .i64 0, .int .u32 0, .int .u32 0, .slice none 0 0, .slice none 0 0] 26)).alloc (.cells #[.int .i64 0, .int .i64 0, .bool false, .bool false, .int .i64 0, .int .i64 0, .int .i64 0, .int .u32 0, .int .u32 0, .slice none 0 0, .slice none 0 0] 26)) (w.heap.size + 1) 26 #[.int .i64 0, .int .i64 0, .bool false, .bool false, .int .i64 0, .int .i64 0, .int .i64 0, .int .u32 0, .int .u32 0, .slice none 0 0, .slice none 0 0]) := hid (by have := Ob.new (w.alloc (.cells #[.int .i64 0, .int .i64 0, .bool false, .bool false, .int .i64 0, .int .i64 0, .int .i64 0, .int .u32 0, .int .u32 0, .slice none 0 0, .slice none 0 0] 26)) 26 #[.int .i64 0, .int .i64 0, .bool false, .bool false, .int .i64 0, .int .i64 0, .int .i64 0, .int .u32 0, .int .u32 0, .slice none 0 0, .slice none 0 0]; simpa using this)
  have HL := hid hl; clear hl
  have HBB := hid hbb; clear hbb
  have d1 : decide ((n : Int) < 20) = false := decide_eq_false (by omega)
  have i0 : (0 : Int) < n := by omega
  subst hp4
  have d2 : ((4 : Int) != 4) = false := rfl
  have d3 : ¬ (hh : Int) < 20 := by omega
  have d4 : ¬ (n : Int) < (hh : Int) := by omega
  have d5 : (tt : Int) < (hh : Int) := by omega
  go_enter Tryd.func19, Tryd.ntmps19
  go_wp2_with fail
  clear c0 hq hqt hp hpt
  refine (ref.get21 _ (some ⟨b, off, none⟩) n c l (HL.out.only_nil QB.out) 2 (by omega) (by omega)).mono ?_
  rintro x w6 ⟨rfl, m6, h6⟩
  have o6 := only_drewN h6
  have OR := hid (OR.out.only o6 (by simp)); have OP := hid (OP.out.only o6 (by simp)); have QB := hid (QB.out.trans o6)
  rw [T2.out]
  clear h6 o6
  go_wp2_with (first | (refine wp_loadOb rfl 26 (.tmp 4) rfl (w.heap.size + 1) rfl _ 26 OP.out Tryd.underlying26 rfl (by kernel_rfl) ?_; try simp only [Act.put, List.setIfInBounds_toArray, List.set_cons_zero, List.set_cons_succ]) | (refine wp_storeOb rfl 26 _ _ rfl w.heap.size _ rfl rfl _ _ OR.out rfl (by kernel_rfl) (by simp [Value.oneCell']) (fun W5 hW5 => ?_); try simp only [Act.put, List.setIfInBounds_toArray, List.set_cons_zero, List.set_cons_succ]; have OR5 := hid (OR.out.eq_all hW5 rfl); have QB5 := hid (QB.out.eq_all hW5 (Or.inr (by simp))); clear hW5) | fail)
  have r0 := OR5.out.cell 0; have r1 := OR5.out.cell 1; have r2 := OR5.out.cell 2; have r3 := OR5.out.cell 3; have r4 := OR5.out.cell 4; have r5 := OR5.out.cell 5; have r6 := OR5.out.cell 6; have r7 := OR5.out.cell 7; have r8 := OR5.out.cell 8; have r9 := OR5.out.cell 9; have r10 := OR5.out.cell 10
  exact bodyPost_ret (v := .tuple #[.agg #[.int .i64 0, .int .i64 0, .bool false, .bool false, .int .i64 0, .int .i64 0, .int .i64 0, .int .u32 0, .int .u32 0, .slice none 0 0, .slice none 0 0], .int .i64 3]) (by simp [results, Tryd.results19, go_sem, *]) rfl ⟨rfl, QB5.out⟩
set_option maxRecDepth 100000 in
set_option maxHeartbeats 8000000 in
theorem r6 (w : World) (b off n c : Nat) (x0 p q : Int) (hh tt : Nat) (l : List Int) (hl : Rd .u8 w (some ⟨b, off, none⟩) n l) (h20 : 20 ≤ n) (hn : n ≤ 70000) (hnc : n ≤ c) (hcm : c ≤ maxLen) (hbb : b < w.heap.size)
    (c0 : ((w.alloc (.cells #[.int .i64 0, .int .i64 0, .bool false, .bool false, .int .i64 0, .int .i64 0, .int .i64 0, .int .u32 0, .int .u32 0, .slice none 0 0, .slice none 0 0] 26)).alloc (.cells #[.int .i64 0, .int .i64 0, .bool false, .bool false, .int .i64 0, .int .i64 0, .int .i64 0, .int .u32 0, .int .u32 0, .slice none 0 0, .slice none 0 0] 26)).cell? ⟨b, off, none⟩ = some (.int .u8 x0)) (w0 : 0 ≤ x0 ∧ x0 ≤ 255) (hp : x0 / 16 = p) (hpt : x0.tdiv 16 = p) (hq : x0 % 16 = q) (hqt : x0.tmod 16 = q) (hq4 : q * 4 = (hh : Int)) (q0 : 0 ≤ q ∧ q ≤ 15) (hp4 : p = 4) (h3 : 20 ≤ hh) (h4 : hh ≤ n) (h5 : hh ≤ tt) (h6 : n < tt) (T2 : Hid (ref.get2 l 2 = (tt : Int))) :
    Calls Tryd.prog 19 #[.slice (some ⟨b, off, none⟩) n c] w fun x w' => x = .returned (.tuple #[.agg #[.int .i64 0, .int .i64 0, .bool false, .bool false, .int .i64 0, .int .i64 0, .int .i64 0, .int .u32 0, .int .u32 0, .slice none 0 0, .slice none 0 0], .int .i64 2]) ∧ Only [] w w' := by
  have QB : Hid (Only [] w ((w.alloc (.cells #[.int .i64 0, .int .i64 0, .bool false, .bool false, .int .i64 0, .int .i64 0, .int .i64 0, .int .u32 0, .int .u32 0, .slice none 0 0, .slice none 0 0] 26)).alloc (.cells #[.int .i64 0, .int .i64 0, .bool false, .bool false, .int .i64 0, .int .i64 0, .int .i64 0, .int .u32 0, .int .u32 0, .slice none 0 0, .slice none 0 0] 26))) := hid (((Only.refl [] w).alloc _).alloc _)
  have OR : Hid (Ob ((w.alloc (.cells #[.int .i64 0, .int .i64 0, .bool false, .bool false, .int .i64 0, .int .i64 0, .int .i64 0, .int .u32 0, .int .u32 0, .slice none 0 0, .slice none 0 0] 26)).alloc (.cells #[.int .i64 0, .int .i64 0, .bool false, .bool false, .int .i64 0, .int .i64 0, .int .i64 0, .int .u32 0, .int .u32 0, .slice none 0 0, .slice none 0 0] 26)) w.heap.size 26 #[.int .i64 0, .int .i64 0, .bool false, .bool false, .int .i64 0, .int .i64 0, .int .i64 0, .int .u32 0, .int .u32 0, .slice none 0 0, .slice none 0 0]) := hid ((Ob.new _ _ _).alloc _)
  have OP : Hid (Ob ((w.alloc (.cells #[.int .i64 0, .int .i64 0, .bool false, .bool false, .int .i64 0, .int .i64 0, .int .i64 0, .int .u32 0, .int .u32 0, .slice none 0 0, .slice none 0 0] 26)).alloc (.cells #[.int .i64 0, .int .i64 0, .bool false, .bool false, .int .i64 0, .int .i64 0, .int .i64 0, .int .u32 0, .int .u32 0, .slice none 0 0, .slice none 0 0] 26)) (w.heap.size + 1) 26 #[.int .i64 0, .int .i64 0, .bool false, .bool false, .int .i64 0, .int .i64 0, .int .i64 0, .int .u32 0, .int .u32 0, .slice none 0 0, .slice none 0 0]) := hid (by have := Ob.new (w.alloc (.cells #[.int .i64 0, .int .i64 0, .bool false, .bool false, .int .i64 0, .int .i64 0, .int .i64 0, .int .u32 0, .int .u32 0, .slice none 0 0, .slice none 0 0] 26)) 26 #[.int .i64 0, .int .i64 0, .bool false, .bool false, .int .i64 0, .int .i64 0, .int .i64 0, .int .u32 0, .int .u32 0, .slice none 0 0, .slice none 0 0]; simpa using this)
  have HL := hid hl; clear hl
  have HBB := hid hbb; clear hbb
  have d1 : decide ((n : Int) < 20) = false := decide_eq_false (by omega)
  have i0 : (0 : Int) < n := by omega
  subst hp4
  have d2 : ((4 : Int) != 4) = false := rfl
  have d3 : ¬ (hh : Int) < 20 := by omega
  have d4 : ¬ (n : Int) < (hh : Int) := by omega
  have d5 : ¬ (tt : Int) < (hh : Int) := by omega
  have d6 : (n : Int) < (tt : Int) := by omega
  go_enter Tryd.func19, Tryd.ntmps19
  go_wp2_with fail
  clear c0 hq hqt hp hpt
  refine (ref.get21 _ (some ⟨b, off, none⟩) n c l (HL.out.only_nil QB.out) 2 (by omega) (by omega)).mono ?_
  rintro x w6 ⟨rfl, m6, h6⟩
  have o6 := only_drewN h6
  have OR := hid (OR.out.only o6 (by simp)); have OP := hid (OP.out.only o6 (by simp)); have QB := hid (QB.out.trans o6)
  rw [T2.out]
  clear h6 o6
  go_wp2_with (first | (refine wp_loadOb rfl 26 (.tmp 4) rfl (w.heap.size + 1) rfl _ 26 OP.out Tryd.underlying26 rfl (by kernel_rfl) ?_; try simp only [Act.put, List.setIfInBounds_toArray, List.set_cons_zero, List.set_cons_succ]) | (refine wp_storeOb rfl 26 _ _ rfl w.heap.size _ rfl rfl _ _ OR.out rfl (by kernel_rfl) (by simp [Value.oneCell']) (fun W5 hW5 => ?_); try simp only [Act.put, List.setIfInBounds_toArray, List.set_cons_zero, List.set_cons_succ]; have OR5 := hid (OR.out.eq_all hW5 rfl); have QB5 := hid (QB.out.eq_all hW5 (Or.inr (by simp))); clear hW5) | fail)
  have r0 := OR5.out.cell 0; have r1 := OR5.out.cell 1; have r2 := OR5.out.cell 2; have r3 := OR5.out.cell 3; have r4 := OR5.out.cell 4; have r5 := OR5.out.cell 5; have r6 := OR5.out.cell 6; have r7 := OR5.out.cell 7; have r8 := OR5.out.cell 8; have r9 := OR5.out.cell 9; have r10 := OR5.out.cell 10
  exact bodyPost_ret (v := .tuple #[.agg #[.int .i64 0, .int .i64 0, .bool false, .bool false, .int .i64 0, .int .i64 0, .int .i64 0, .int .u32 0, .int .u32 0, .slice none 0 0, .slice none 0 0], .int .i64 2]) (by simp [results, Tryd.results19, go_sem, *]) rfl ⟨rfl, QB5.out⟩
set_option maxRecDepth 100000 in
set_option maxHeartbeats 8000000 in
theorem r7 (w : World) (b off n c : Nat) (x0 p q : Int) (hh tt : Nat) (l : List Int) (hl : Rd .u8 w (some ⟨b, off, none⟩) n l) (h20 : 20 ≤ n) (hn : n ≤ 70000) (hnc : n ≤ c) (hcm : c ≤ maxLen) (hbb : b < w.heap.size)
    (c0 : ((w.alloc (.cells #[.int .i64 0, .int .i64 0, .bool false, .bool false, .int .i64 0, .int .i64 0, .int .i64 0, .int .u32 0, .int .u32 0, .slice none 0 0, .slice none 0 0] 26)).alloc (.cells #[.int .i64 0, .int .i64 0, .bool false, .bool false, .int .i64 0, .int .i64 0, .int .i64 0, .int .u32 0, .int .u32 0, .slice none 0 0, .slice none 0 0] 26)).cell? ⟨b, off, none⟩ = some (.int .u8 x0)) (w0 : 0 ≤ x0 ∧ x0 ≤ 255) (hp : x0 / 16 = p) (hpt : x0.tdiv 16 = p) (hq : x0 % 16 = q) (hqt : x0.tmod 16 = q) (hq4 : q * 4 = (hh : Int)) (q0 : 0 ≤ q ∧ q ≤ 15) (hp4 : p = 4) (h3 : 20 ≤ hh) (h4 : hh ≤ n) (h5 : hh ≤ tt) (h6 : tt ≤ n) (T2 : Hid (ref.get2 l 2 = (tt : Int))) (HS : Hid (oct.sumF (l.take hh) ≠ 0)) :
    Calls Tryd.prog 19 #[.slice (some ⟨b, off, none⟩) n c] w fun x w' => x = .returned (.tuple #[.agg #[.int .i64 0, .int .i64 0, .bool false, .bool false, .int .i64 0, .int .i64 0, .int .i64 0, .int .u32 0, .int .u32 0, .slice none 0 0, .slice none 0 0], .int .i64 4]) ∧ Only [] w w' := by
  have QB : Hid (Only [] w ((w.alloc (.cells #[.int .i64 0, .int .i64 0, .bool false, .bool false, .int .i64 0, .int .i64 0, .int .i64 0, .int .u32 0, .int .u32 0, .slice none 0 0, .slice none 0 0] 26)).alloc (.cells #[.int .i64 0, .int .i64 0, .bool false, .bool false, .int .i64 0, .int .i64 0, .int .i64 0, .int .u32 0, .int .u32 0, .slice none 0 0, .slice none 0 0] 26))) := hid (((Only.refl [] w).alloc _).alloc _)
  have OR : Hid (Ob ((w.alloc (.cells #[.int .i64 0, .int .i64 0, .bool false, .bool false, .int .i64 0, .int .i64 0, .int .i64 0, .int .u32 0, .int .u32 0, .slice none 0 0, .slice none 0 0] 26)).alloc (.cells #[.int .i64 0, .int .i64 0, .bool false, .bool false, .int .i64 0, .int .i64 0, .int .i64 0, .int .u32 0, .int .u32 0, .slice none 0 0, .slice none 0 0] 26)) w.heap.size 26 #[.int .i64 0, .int .i64 0, .bool false, .bool false, .int .i64 0, .int .i64 0, .int .i64 0, .int .u32 0, .int .u32 0, .slice none 0 0, .slice none 0 0]) := hid ((Ob.new _ _ _).alloc _)
  have OP : Hid (Ob ((w.alloc (.cells #[.int .i64 0, .int .i64 0, .bool false, .bool false, .int .i64 0, .int .i64 0, .int .i64 0, .int .u32 0, .int .u32 0, .slice none 0 0, .slice none 0 0] 26)).alloc (.cells #[.int .i64 0, .int .i64 0, .bool false, .bool false, .int .i64 0, .int .i64 0, .int .i64 0, .int .u32 0, .int .u32 0, .slice none 0 0, .slice none 0 0] 26)) (w.heap.size + 1) 26 #[.int .i64 0, .int .i64 0, .bool false, .bool false, .int .i64 0, .int .i64 0, .int .i64 0, .int .u32 0, .int .u32 0, .slice none 0 0, .slice none 0 0]) := hid (by have := Ob.new (w.alloc (.cells #[.int .i64 0, .int .i64 0, .bool false, .bool false, .int .i64 0, .int .i64 0, .int .i64 0, .int .u32 0, .int .u32 0, .slice none 0 0, .slice none 0 0] 26)) 26 #[.int .i64 0, .int .i64 0, .bool false, .bool false, .int .i64 0, .int .i64 0, .int .i64 0, .int .u32 0, .int .u32 0, .slice none 0 0, .slice none 0 0]; simpa using this)
  have HL := hid hl; clear hl
  have HBB := hid hbb; clear hbb
  have d1 : decide ((n : Int) < 20) = false := decide_eq_false (by omega)
  have i0 : (0 : Int) < n := by omega
  subst hp4
  have d2 : ((4 : Int) != 4) = false := rfl
  have d3 : ¬ (hh : Int) < 20 := by omega
  have d4 : ¬ (n : Int) < (hh : Int) := by omega
  have d5 : ¬ (tt : Int) < (hh : Int) := by omega
  have d6 : ¬ (n : Int) < (tt : Int) := by omega
  have hhc : (hh : Int) ≤ (c : Int) := by omega
  go_enter Tryd.func19, Tryd.ntmps19
  go_wp2_with fail
  clear c0 hq hqt hp hpt
  refine (ref.get21 _ (some ⟨b, off, none⟩) n c l (HL.out.only_nil QB.out) 2 (by omega) (by omega)).mono ?_
  rintro x w6 ⟨rfl, m6, h6⟩
  have o6 := only_drewN h6
  have OR := hid (OR.out.only o6 (by simp)); have OP := hid (OP.out.only o6 (by simp)); have QB := hid (QB.out.trans o6)
  rw [T2.out]
  clear h6 o6
  go_wp2_with fail
  refine (oct.sum2 _ (some ⟨b, off, none⟩) hh c (l.take hh) ((HL.out.take hh (by omega)).only_nil QB.out) (by omega)).mono ?_
  rintro x w7 ⟨rfl, m7, h7⟩
  have o7 := only_drewN h7
  have OR := hid (OR.out.only o7 (by simp)); have OP := hid (OP.out.only o7 (by simp)); have QB := hid (QB.out.trans o7)
  clear h7 o7
  have ds : (oct.sumF (l.take hh) != 0) = true := by simpa using HS.out
  go_wp2_with (first | (refine wp_loadOb rfl 26 (.tmp 4) rfl (w.heap.size + 1) rfl _ 26 OP.out Tryd.underlying26 rfl (by kernel_rfl) ?_; try simp only [Act.put, List.setIfInBounds_toArray, List.set_cons_zero, List.set_cons_succ]) | (refine wp_storeOb rfl 26 _ _ rfl w.heap.size _ rfl rfl _ _ OR.out rfl (by kernel_rfl) (by simp [Value.oneCell']) (fun W5 hW5 => ?_); try simp only [Act.put, List.setIfInBounds_toArray, List.set_cons_zero, List.set_cons_succ]; have OR5 := hid (OR.out.eq_all hW5 rfl); have QB5 := hid (QB.out.eq_all hW5 (Or.inr (by simp))); clear hW5) | fail)
  have r0 := OR5.out.cell 0; have r1 := OR5.out.cell 1; have r2 := OR5.out.cell 2; have r3 := OR5.out.cell 3; have r4 := OR5.out.cell 4; have r5 := OR5.out.cell 5; have r6 := OR5.out.cell 6; have r7 := OR5.out.cell 7; have r8 := OR5.out.cell 8; have r9 := OR5.out.cell 9; have r10 := OR5.out.cell 10
  exact bodyPost_ret (v := .tuple #[.agg #[.int .i64 0, .int .i64 0, .bool false, .bool false, .int .i64 0, .int .i64 0, .int .i64 0, .int .u32 0, .int .u32 0, .slice none 0 0, .slice none 0 0], .int .i64 4]) (by simp [results, Tryd.results19, go_sem, *]) rfl ⟨rfl, QB5.out⟩
set_option maxRecDepth 100000 in
set_option maxHeartbeats 8000000 in
theorem r8 (w : World) (b off n c : Nat) (x0 p q : Int) (hh tt : Nat) (l : List Int) (hl : Rd .u8 w (some ⟨b, off, none⟩) n l) (h20 : 20 ≤ n) (hn : n ≤ 70000) (hnc : n ≤ c) (hcm : c ≤ maxLen) (hbb : b < w.heap.size)
    (c0 : ((w.alloc (.cells #[.int .i64 0, .int .i64 0, .bool false, .bool false, .int .i64 0, .int .i64 0, .int .i64 0, .int .u32 0, .int .u32 0, .slice none 0 0, .slice none 0 0] 26)).alloc (.cells #[.int .i64 0, .int .i64 0, .bool false, .bool false, .int .i64 0, .int .i64 0, .int .i64 0, .int .u32 0, .int .u32 0, .slice none 0 0, .slice none 0 0] 26)).cell? ⟨b, off, none⟩ = some (.int .u8 x0)) (w0 : 0 ≤ x0 ∧ x0 ≤ 255) (hp : x0 / 16 = p) (hpt : x0.tdiv 16 = p) (hq : x0 % 16 = q) (hqt : x0.tmod 16 = q) (hq4 : q * 4 = (hh : Int)) (q0 : 0 ≤ q ∧ q ≤ 15) (hp4 : p = 4) (h3 : 20 ≤ hh) (h4 : hh ≤ n) (h5 : hh ≤ tt) (h6 : tt ≤ n) (T2 : Hid (ref.get2 l 2 = (tt : Int))) (HS : Hid (oct.sumF (l.take hh) = 0)) (B b13 : Int) (nb : Bool) (T6 : Hid (ref.get2 l 6 = B)) (HNB : Hid ((bits .and .i64 B 32768 != 0) = nb)) (hb : nb = true) :
    Calls Tryd.prog 19 #[.slice (some ⟨b, off, none⟩) n c] w fun x w' => x = .returned (.tuple #[.agg #[.int .i64 0, .int .i64 0, .bool false, .bool false, .int .i64 0, .int .i64 0, .int .i64 0, .int .u32 0, .int .u32 0, .slice none 0 0, .slice none 0 0], .int .i64 3]) ∧ Only [] w w' := by
  have QB : Hid (Only [] w ((w.alloc (.cells #[.int .i64 0, .int .i64 0, .bool false, .bool false, .int .i64 0, .int .i64 0, .int .i64 0, .int .u32 0, .int .u32 0, .slice none 0 0, .slice none 0 0] 26)).alloc (.cells #[.int .i64 0, .int .i64 0, .bool false, .bool false, .int .i64 0, .int .i64 0, .int .i64 0, .int .u32 0, .int .u32 0, .slice none 0 0, .slice none 0 0] 26))) := hid (((Only.refl [] w).alloc _).alloc _)
  have OR : Hid (Ob ((w.alloc (.cells #[.int .i64 0, .int .i64 0, .bool false, .bool false, .int .i64 0, .int .i64 0, .int .i64 0, .int .u32 0, .int .u32 0, .slice none 0 0, .slice none 0 0] 26)).alloc (.cells #[.int .i64 0, .int .i64 0, .bool false, .bool false, .int .i64 0, .int .i64 0, .int .i64 0, .int .u32 0, .int .u32 0, .slice none 0 0, .slice none 0 0] 26)) w.heap.size 26 #[.int .i64 0, .int .i64 0, .bool false, .bool false, .int .i64 0, .int .i64 0, .int .i64 0, .int .u32 0, .int .u32 0, .slice none 0 0, .slice none 0 0]) := hid ((Ob.new _ _ _).alloc _)
  have OP : Hid (Ob ((w.alloc (.cells #[.int .i64 0, .int .i64 0, .bool false, .bool false, .int .i64 0, .int .i64 0, .int .i64 0, .int .u32 0, .int .u32 0, .slice none 0 0, .slice none 0 0] 26)).alloc (.cells #[.int .i64 0, .int .i64 0, .bool false, .bool false, .int .i64 0, .int .i64 0, .int .i64 0, .int .u32 0, .int .u32 0, .slice none 0 0, .slice none 0 0] 26)) (w.heap.size + 1) 26 #[.int .i64 0, .int .i64 0, .bool false, .bool false, .int .i64 0, .int .i64 0, .int .i64 0, .int .u32 0, .int .u32 0, .slice none 0 0, .slice none 0 0]) := hid (by have := Ob.new (w.alloc (.cells #[.int .i64 0, .int .i64 0, .bool false, .bool false, .int .i64 0, .int .i64 0, .int .i64 0, .int .u32 0, .int .u32 0, .slice none 0 0, .slice none 0 0] 26)) 26 #[.int .i64 0, .int .i64 0, .bool false, .bool false, .int .i64 0, .int .i64 0, .int .i64 0, .int .u32 0, .int .u32 0, .slice none 0 0, .slice none 0 0]; simpa using this)
  have HL := hid hl; clear hl
  have HBB := hid hbb; clear hbb
  have d1 : decide ((n : Int) < 20) = false := decide_eq_false (by omega)
  have i0 : (0 : Int) < n := by omega
  subst hp4 hb
  have d2 : ((4 : Int) != 4) = false := rfl
  have d3 : ¬ (hh : Int) < 20 := by omega
  have d4 : ¬ (n : Int) < (hh : Int) := by omega
  have d5 : ¬ (tt : Int) < (hh : Int) := by omega
  have d6 : ¬ (n : Int) < (tt : Int) := by omega
  have hhc : (hh : Int) ≤ (c : Int) := by omega
  go_enter Tryd.func19, Tryd.ntmps19
  go_wp2_with fail
  clear c0 hq hqt hp hpt
  refine (ref.get21 _ (some ⟨b, off, none⟩) n c l (HL.out.only_nil QB.out) 2 (by omega) (by omega)).mono ?_
  rintro x w6 ⟨rfl, m6, h6⟩
  have o6 := only_drewN h6
  have OR := hid (OR.out.only o6 (by simp)); have OP := hid (OP.out.only o6 (by simp)); have QB := hid (QB.out.trans o6)
  rw [T2.out]
  clear h6 o6
  go_wp2_with fail
  refine (oct.sum2 _ (some ⟨b, off, none⟩) hh c (l.take hh) ((HL.out.take hh (by omega)).only_nil QB.out) (by omega)).mono ?_
  rintro x w7 ⟨rfl, m7, h7⟩
  have o7 := only_drewN h7
  have OR := hid (OR.out.only o7 (by simp)); have OP := hid (OP.out.only o7 (by simp)); have QB := hid (QB.out.trans o7)
  clear h7 o7
  have ds : (oct.sumF (l.take hh) != 0) = false := by rw [HS.out]; rfl
  go_wp2_with fail
  clear ds
  refine (ref.get21 _ (some ⟨b, off, none⟩) n c l (HL.out.only_nil QB.out) 6 (by omega) (by omega)).mono ?_
  rintro x w8 ⟨rfl, m8, h8⟩
  have o8 := only_drewN h8
  have OR := hid (OR.out.only o8 (by simp)); have OP := hid (OP.out.only o8 (by simp)); have QB := hid (QB.out.trans o8)
  rw [T6.out]
  clear h8 o8
  have hnb := HNB.out
  go_wp2_with (first | (refine wp_loadOb rfl 26 (.tmp 4) rfl (w.heap.size + 1) rfl _ 26 OP.out Tryd.underlying26 rfl (by kernel_rfl) ?_; try simp only [Act.put, List.setIfInBounds_toArray, List.set_cons_zero, List.set_cons_succ]) | (refine wp_storeOb rfl 26 _ _ rfl w.heap.size _ rfl rfl _ _ OR.out rfl (by kernel_rfl) (by simp [Value.oneCell']) (fun W5 hW5 => ?_); try simp only [Act.put, List.setIfInBounds_toArray, List.set_cons_zero, List.set_cons_succ]; have OR5 := hid (OR.out.eq_all hW5 rfl); have QB5 := hid (QB.out.eq_all hW5 (Or.inr (by simp))); clear hW5) | fail)
  have r0 := OR5.out.cell 0; have r1 := OR5.out.cell 1; have r2 := OR5.out.cell 2; have r3 := OR5.out.cell 3; have r4 := OR5.out.cell 4; have r5 := OR5.out.cell 5; have r6 := OR5.out.cell 6; have r7 := OR5.out.cell 7; have r8 := OR5.out.cell 8; have r9 := OR5.out.cell 9; have r10 := OR5.out.cell 10
  exact bodyPost_ret (v := .tuple #[.agg #[.int .i64 0, .int .i64 0, .bool false, .bool false, .int .i64 0, .int .i64 0, .int .i64 0, .int .u32 0, .int .u32 0, .slice none 0 0, .slice none 0 0], .int .i64 3]) (by simp [results, Tryd.results19, go_sem, *]) rfl ⟨rfl, QB5.out⟩
set_option maxRecDepth 100000 in
set_option maxHeartbeats 8000000 in
theorem r9 (w : World) (b off n c : Nat) (x0 p q : Int) (hh tt : Nat) (l : List Int) (hl : Rd .u8 w (some ⟨b, off, none⟩) n l) (h20 : 20 ≤ n) (hn : n ≤ 70000) (hnc : n ≤ c) (hcm : c ≤ maxLen) (hbb : b < w.heap.size)
    (c0 : ((w.alloc (.cells #[.int .i64 0, .int .i64 0, .bool false, .bool false, .int .i64 0, .int .i64 0, .int .i64 0, .int .u32 0, .int .u32 0, .slice none 0 0, .slice none 0 0] 26)).alloc (.cells #[.int .i64 0, .int .i64 0, .bool false, .bool false, .int .i64 0, .int .i64 0, .int .i64 0, .int .u32 0, .int .u32 0, .slice none 0 0, .slice none 0 0] 26)).cell? ⟨b, off, none⟩ = some (.int .u8 x0)) (w0 : 0 ≤ x0 ∧ x0 ≤ 255) (hp : x0 / 16 = p) (hpt : x0.tdiv 16 = p) (hq : x0 % 16 = q) (hqt : x0.tmod 16 = q) (hq4 : q * 4 = (hh : Int)) (q0 : 0 ≤ q ∧ q ≤ 15) (hp4 : p = 4) (h3 : 20 ≤ hh) (h4 : hh ≤ n) (h5 : hh ≤ tt) (h6 : tt ≤ n) (T2 : Hid (ref.get2 l 2 = (tt : Int))) (HS : Hid (oct.sumF (l.take hh) = 0)) (B b13 : Int) (nb : Bool) (T6 : Hid (ref.get2 l 6 = B)) (HNB : Hid ((bits .and .i64 B 32768 != 0) = nb)) (hb : nb = false) (hof : Ofs ((l.take hh).drop 20) false) :
    Calls Tryd.prog 19 #[.slice (some ⟨b, off, none⟩) n c] w fun x w' => x = .returned (.tuple #[.agg #[.int .i64 0, .int .i64 0, .bool false, .bool false, .int .i64 0, .int .i64 0, .int .i64 0, .int .u32 0, .int .u32 0, .slice none 0 0, .slice none 0 0], .int .i64 3]) ∧ Only [] w w' := by
  have QB : Hid (Only [] w ((w.alloc (.cells #[.int .i64 0, .int .i64 0, .bool false, .bool false, .int .i64 0, .int .i64 0, .int .i64 0, .int .u32 0, .int .u32 0, .slice none 0 0, .slice none 0 0] 26)).alloc (.cells #[.int .i64 0, .int .i64 0, .bool false, .bool false, .int .i64 0, .int .i64 0, .int .i64 0, .int .u32 0, .int .u32 0, .slice none 0 0, .slice none 0 0] 26))) := hid (((Only.refl [] w).alloc _).alloc _)
  have OR : Hid (Ob ((w.alloc (.cells #[.int .i64 0, .int .i64 0, .bool false, .bool false, .int .i64 0, .int .i64 0, .int .i64 0, .int .u32 0, .int .u32 0, .slice none 0 0, .slice none 0 0] 26)).alloc (.cells #[.int .i64 0, .int .i64 0, .bool false, .bool false, .int .i64 0, .int .i64 0, .int .i64 0, .int .u32 0, .int .u32 0, .slice none 0 0, .slice none 0 0] 26)) w.heap.size 26 #[.int .i64 0, .int .i64 0, .bool false, .bool false, .int .i64 0, .int .i64 0, .int .i64 0, .int .u32 0, .int .u32 0, .slice none 0 0, .slice none 0 0]) := hid ((Ob.new _ _ _).alloc _)
  have OP : Hid (Ob ((w.alloc (.cells #[.int .i64 0, .int .i64 0, .bool false, .bool false, .int .i64 0, .int .i64 0, .int .i64 0, .int .u32 0, .int .u32 0, .slice none 0 0, .slice none 0 0] 26)).alloc (.cells #[.int .i64 0, .int .i64 0, .bool false, .bool false, .int .i64 0, .int .i64 0, .int .i64 0, .int .u32 0, .int .u32 0, .slice none 0 0, .slice none 0 0] 26)) (w.heap.size + 1) 26 #[.int .i64 0, .int .i64 0, .bool false, .bool false, .int .i64 0, .int .i64 0, .int .i64 0, .int .u32 0, .int .u32 0, .slice none 0 0, .slice none 0 0]) := hid (by have := Ob.new (w.alloc (.cells #[.int .i64 0, .int .i64 0, .bool false, .bool false, .int .i64 0, .int .i64 0, .int .i64 0, .int .u32 0, .int .u32 0, .slice none 0 0, .slice none 0 0] 26)) 26 #[.int .i64 0, .int .i64 0, .bool false, .bool false, .int .i64 0, .int .i64 0, .int .i64 0, .int .u32 0, .int .u32 0, .slice none 0 0, .slice none 0 0]; simpa using this)
  have HL := hid hl; clear hl
  have HBB := hid hbb; clear hbb
  have d1 : decide ((n : Int) < 20) = false := decide_eq_false (by omega)
  have i0 : (0 : Int) < n := by omega
  subst hp4 hb
  have d2 : ((4 : Int) != 4) = false := rfl
  have d3 : ¬ (hh : Int) < 20 := by omega
  have d4 : ¬ (n : Int) < (hh : Int) := by omega
  have d5 : ¬ (tt : Int) < (hh : Int) := by omega
  have d6 : ¬ (n : Int) < (tt : Int) := by omega
  have hhc : (hh : Int) ≤ (c : Int) := by omega
  have hs2 : ∃ A' c', (∀ W : World, (Instr.slice 24 (.slice (some ⟨b, off, none⟩) n c) (some (.int .i64 20)) (some (.int .i64 (hh : Int))) none).run Tryd.prog W = .ok (.slice A' (hh - 20) c') W) ∧ Rd .u8 w A' (hh - 20) ((l.take hh).drop 20) ∧ hh - 20 ≤ c' ∧ c' ≤ maxLen ∧ (A' = none → c' = 0) := by
    have h0 := (HL.out.take hh (by omega)).drop 20 (by omega)
    by_cases hce : c = 20
    · subst hce
      obtain rfl : hh = 20 := by omega
      refine ⟨some ⟨b, off, none⟩, 0, fun W => ?_, ?_, by omega, by unfold maxLen; omega, by simp⟩
      · go_simp
      · rw [Nat.sub_self, List.drop_of_length_le (by rw [List.length_take]; omega)]; exact Rd.nil _ _ _
    · have g1 : ¬ (c : Int) = 20 := by omega
      have g2 : (20 : Int) ≤ (hh : Int) := by omega
      have g3 : (hh : Int) ≤ (c : Int) := by omega
      exact ⟨some ⟨b, off + 20, none⟩, c - 20, fun W => by go_simp, h0, by omega, by omega, by simp⟩
  obtain ⟨A3, c3, hs2, hr3, hc3, hm3, hn3⟩ := hs2
  have HS2 := hid hs2; have HR3 := hid hr3; have HC3 := hid hn3; clear hs2 hr3 hn3
  go_enter Tryd.func19, Tryd.ntmps19
  go_wp2_with fail
  clear c0 hq hqt hp hpt
  refine (ref.get21 _ (some ⟨b, off, none⟩) n c l (HL.out.only_nil QB.out) 2 (by omega) (by omega)).mono ?_
  rintro x w6 ⟨rfl, m6, h6⟩
  have o6 := only_drewN h6
  have OR := hid (OR.out.only o6 (by simp)); have OP := hid (OP.out.only o6 (by simp)); have QB := hid (QB.out.trans o6)
  rw [T2.out]
  clear h6 o6
  go_wp2_with fail
  refine (oct.sum2 _ (some ⟨b, off, none⟩) hh c (l.take hh) ((HL.out.take hh (by omega)).only_nil QB.out) (by omega)).mono ?_
  rintro x w7 ⟨rfl, m7, h7⟩
  have o7 := only_drewN h7
  have OR := hid (OR.out.only o7 (by simp)); have OP := hid (OP.out.only o7 (by simp)); have QB := hid (QB.out.trans o7)
  clear h7 o7
  have ds : (oct.sumF (l.take hh) != 0) = false := by rw [HS.out]; rfl
  go_wp2_with fail
  clear ds
  refine (ref.get21 _ (some ⟨b, off, none⟩) n c l (HL.out.only_nil QB.out) 6 (by omega) (by omega)).mono ?_
  rintro x w8 ⟨rfl, m8, h8⟩
  have o8 := only_drewN h8
  have OR := hid (OR.out.only o8 (by simp)); have OP := hid (OP.out.only o8 (by simp)); have QB := hid (QB.out.trans o8)
  rw [T6.out]
  clear h8 o8
  have hnb := HNB.out
  have hs2 := HS2.out
  go_wp2_with fail
  clear hs2 hnb
  refine (op1 _ A3 (hh - 20) c3 ((l.take hh).drop 20) false (HR3.out.only_nil QB.out) hc3 hm3 (by omega) hof).mono ?_
  rintro x w9 ⟨rfl, rfl⟩
  go_wp2_with (first | (refine wp_loadOb rfl 26 (.tmp 4) rfl (w.heap.size + 1) rfl _ 26 OP.out Tryd.underlying26 rfl (by kernel_rfl) ?_; try simp only [Act.put, List.setIfInBounds_toArray, List.set_cons_zero, List.set_cons_succ]) | (refine wp_storeOb rfl 26 _ _ rfl w.heap.size _ rfl rfl _ _ OR.out rfl (by kernel_rfl) (by simp [Value.oneCell']) (fun W5 hW5 => ?_); try simp only [Act.put, List.setIfInBounds_toArray, List.set_cons_zero, List.set_cons_succ]; have OR5 := hid (OR.out.eq_all hW5 rfl); have QB5 := hid (QB.out.eq_all hW5 (Or.inr (by simp))); clear hW5) | fail)
  have r0 := OR5.out.cell 0; have r1 := OR5.out.cell 1; have r2 := OR5.out.cell 2; have r3 := OR5.out.cell 3; have r4 := OR5.out.cell 4; have r5 := OR5.out.cell 5; have r6 := OR5.out.cell 6; have r7 := OR5.out.cell 7; have r8 := OR5.out.cell 8; have r9 := OR5.out.cell 9; have r10 := OR5.out.cell 10
  exact bodyPost_ret (v := .tuple #[.agg #[.int .i64 0, .int .i64 0, .bool false, .bool false, .int .i64 0, .int .i64 0, .int .i64 0, .int .u32 0, .int .u32 0, .slice none 0 0, .slice none 0 0], .int .i64 3]) (by simp [results, Tryd.results19, go_sem, *]) rfl ⟨rfl, QB5.out⟩
set_option maxRecDepth 100000 in
set_option maxHeartbeats 8000000 in
theorem r10 (w : World) (b off n c : Nat) (x0 p q : Int) (hh tt : Nat) (l : List Int) (hl : Rd .u8 w (some ⟨b, off, none⟩) n l) (h20 : 20 ≤ n) (hn : n ≤ 70000) (hnc : n ≤ c) (hcm : c ≤ maxLen) (hbb : b < w.heap.size)
    (c0 : ((w.alloc (.cells #[.int .i64 0, .int .i64 0, .bool false, .bool false, .int .i64 0, .int .i64 0, .int .i64 0, .int .u32 0, .int .u32 0, .slice none 0 0, .slice none 0 0] 26)).alloc (.cells #[.int .i64 0, .int .i64 0, .bool false, .bool false, .int .i64 0, .int .i64 0, .int .i64 0, .int .u32 0, .int .u32 0, .slice none 0 0, .slice none 0 0] 26)).cell? ⟨b, off, none⟩ = some (.int .u8 x0)) (w0 : 0 ≤ x0 ∧ x0 ≤ 255) (hp : x0 / 16 = p) (hpt : x0.tdiv 16 = p) (hq : x0 % 16 = q) (hqt : x0.tmod 16 = q) (hq4 : q * 4 = (hh : Int)) (q0 : 0 ≤ q ∧ q ≤ 15) (hp4 : p = 4) (h3 : 20 ≤ hh) (h4 : hh ≤ n) (h5 : hh ≤ tt) (h6 : tt ≤ n) (T2 : Hid (ref.get2 l 2 = (tt : Int))) (HS : Hid (oct.sumF (l.take hh) = 0)) (B b13 : Int) (nb : Bool) (T6 : Hid (ref.get2 l 6 = B)) (HNB : Hid ((bits .and .i64 B 32768 != 0) = nb)) (hb : nb = false) (hof : Ofs ((l.take hh).drop 20) true) (hB13 : B % 8192 = b13) (hB13t : B.tmod 8192 = b13) (hbb2 : 0 ≤ b13 ∧ b13 ≤ 8191) (hlong : 65535 - (hh : Int) < b13 * 8 + (tt : Int) - (hh : Int)) :
    Calls Tryd.prog 19 #[.slice (some ⟨b, off, none⟩) n c] w fun x w' => x = .returned (.tuple #[.agg #[.int .i64 0, .int .i64 0, .bool false, .bool false, .int .i64 0, .int .i64 0, .int .i64 0, .int .u32 0, .int .u32 0, .slice none 0 0, .slice none 0 0], .int .i64 5]) ∧ Only [] w w' := by
  have QB : Hid (Only [] w ((w.alloc (.cells #[.int .i64 0, .int .i64 0, .bool false, .bool false, .int .i64 0, .int .i64 0, .int .i64 0, .int .u32 0, .int .u32 0, .slice none 0 0, .slice none 0 0] 26)).alloc (.cells #[.int .i64 0, .int .i64 0, .bool false, .bool false, .int .i64 0, .int .i64 0, .int .i64 0, .int .u32 0, .int .u32 0, .slice none 0 0, .slice none 0 0] 26))) := hid (((Only.refl [] w).alloc _).alloc _)
  have OR : Hid (Ob ((w.alloc (.cells #[.int .i64 0, .int .i64 0, .bool false, .bool false, .int .i64 0, .int .i64 0, .int .i64 0, .int .u32 0, .int .u32 0, .slice none 0 0, .slice none 0 0] 26)).alloc (.cells #[.int .i64 0, .int .i64 0, .bool false, .bool false, .int .i64 0, .int .i64 0, .int .i64 0, .int .u32 0, .int .u32 0, .slice none 0 0, .slice none 0 0] 26)) w.heap.size 26 #[.int .i64 0, .int .i64 0, .bool false, .bool false, .int .i64 0, .int .i64 0, .int .i64 0, .int .u32 0, .int .u32 0, .slice none 0 0, .slice none 0 0]) := hid ((Ob.new _ _ _).alloc _)
  have OP : Hid (Ob ((w.alloc (.cells #[.int .i64 0, .int .i64 0, .bool false, .bool false, .int .i64 0, .int .i64 0, .int .i64 0, .int .u32 0, .int .u32 0, .slice none 0 0, .slice none 0 0] 26)).alloc (.cells #[.int .i64 0, .int .i64 0, .bool false, .bool false, .int .i64 0, .int .i64 0, .int .i64 0, .int .u32 0, .int .u32 0, .slice none 0 0, .slice none 0 0] 26)) (w.heap.size + 1) 26 #[.int .i64 0, .int .i64 0, .bool false, .bool false, .int .i64 0, .int .i64 0, .int .i64 0, .int .u32 0, .int .u32 0, .slice none 0 0, .slice none 0 0]) := hid (by have := Ob.new (w.alloc (.cells #[.int .i64 0, .int .i64 0, .bool false, .bool false, .int .i64 0, .int .i64 0, .int .i64 0, .int .u32 0, .int .u32 0, .slice none 0 0, .slice none 0 0] 26)) 26 #[.int .i64 0, .int .i64 0, .bool false, .bool false, .int .i64 0, .int .i64 0, .int .i64 0, .int .u32 0, .int .u32 0, .slice none 0 0, .slice none 0 0]; simpa using this)
  have HL := hid hl; clear hl
  have HBB := hid hbb; clear hbb
  have d1 : decide ((n : Int) < 20) = false := decide_eq_false (by omega)
  have i0 : (0 : Int) < n := by omega
  subst hp4 hb
  have d2 : ((4 : Int) != 4) = false := rfl
  have d3 : ¬ (hh : Int) < 20 := by omega
  have d4 : ¬ (n : Int) < (hh : Int) := by omega
  have d5 : ¬ (tt : Int) < (hh : Int) := by omega
  have d6 : ¬ (n : Int) < (tt : Int) := by omega
  have hhc : (hh : Int) ≤ (c : Int) := by omega
  have hs2 : ∃ A' c', (∀ W : World, (Instr.slice 24 (.slice (some ⟨b, off, none⟩) n c) (some (.int .i64 20)) (some (.int .i64 (hh : Int))) none).run Tryd.prog W = .ok (.slice A' (hh - 20) c') W) ∧ Rd .u8 w A' (hh - 20) ((l.take hh).drop 20) ∧ hh - 20 ≤ c' ∧ c' ≤ maxLen ∧ (A' = none → c' = 0) := by
    have h0 := (HL.out.take hh (by omega)).drop 20 (by omega)
    by_cases hce : c = 20
    · subst hce
      obtain rfl : hh = 20 := by omega
      refine ⟨some ⟨b, off, none⟩, 0, fun W => ?_, ?_, by omega, by unfold maxLen; omega, by simp⟩
      · go_simp
      · rw [Nat.sub_self, List.drop_of_length_le (by rw [List.length_take]; omega)]; exact Rd.nil _ _ _
    · have g1 : ¬ (c : Int) = 20 := by omega
      have g2 : (20 : Int) ≤ (hh : Int) := by omega
      have g3 : (hh : Int) ≤ (c : Int) := by omega
      exact ⟨some ⟨b, off + 20, none⟩, c - 20, fun W => by go_simp, h0, by omega, by omega, by simp⟩
  obtain ⟨A3, c3, hs2, hr3, hc3, hm3, hn3⟩ := hs2
  have HS2 := hid hs2; have HR3 := hid hr3; have HC3 := hid hn3; clear hs2 hr3 hn3
  go_enter Tryd.func19, Tryd.ntmps19
  go_wp2_with fail
  clear c0 hq hqt hp hpt
  refine (ref.get21 _ (some ⟨b, off, none⟩) n c l (HL.out.only_nil QB.out) 2 (by omega) (by omega)).mono ?_
  rintro x w6 ⟨rfl, m6, h6⟩
  have o6 := only_drewN h6
  have OR := hid (OR.out.only o6 (by simp)); have OP := hid (OP.out.only o6 (by simp)); have QB := hid (QB.out.trans o6)
  rw [T2.out]
  clear h6 o6
  go_wp2_with fail
  refine (oct.sum2 _ (some ⟨b, off, none⟩) hh c (l.take hh) ((HL.out.take hh (by omega)).only_nil QB.out) (by omega)).mono ?_
  rintro x w7 ⟨rfl, m7, h7⟩
  have o7 := only_drewN h7
  have OR := hid (OR.out.only o7 (by simp)); have OP := hid (OP.out.only o7 (by simp)); have QB := hid (QB.out.trans o7)
  clear h7 o7
  have ds : (oct.sumF (l.take hh) != 0) = false := by rw [HS.out]; rfl
  go_wp2_with fail
  clear ds
  refine (ref.get21 _ (some ⟨b, off, none⟩) n c l (HL.out.only_nil QB.out) 6 (by omega) (by omega)).mono ?_
  rintro x w8 ⟨rfl, m8, h8⟩
  have o8 := only_drewN h8
  have OR := hid (OR.out.only o8 (by simp)); have OP := hid (OP.out.only o8 (by simp)); have QB := hid (QB.out.trans o8)
  rw [T6.out]
  clear h8 o8
  have hnb := HNB.out
  have hs2 := HS2.out
  go_wp2_with fail
  clear hs2 hnb
  refine (op1 _ A3 (hh - 20) c3 ((l.take hh).drop 20) true (HR3.out.only_nil QB.out) hc3 hm3 (by omega) hof).mono ?_
  rintro x w9 ⟨rfl, rfl⟩
  go_wp2_with (first | (refine wp_loadOb rfl 26 (.tmp 4) rfl (w.heap.size + 1) rfl _ 26 OP.out Tryd.underlying26 rfl (by kernel_rfl) ?_; try simp only [Act.put, List.setIfInBounds_toArray, List.set_cons_zero, List.set_cons_succ]) | (refine wp_storeOb rfl 26 _ _ rfl w.heap.size _ rfl rfl _ _ OR.out rfl (by kernel_rfl) (by simp [Value.oneCell']) (fun W5 hW5 => ?_); try simp only [Act.put, List.setIfInBounds_toArray, List.set_cons_zero, List.set_cons_succ]; have OR5 := hid (OR.out.eq_all hW5 rfl); have QB5 := hid (QB.out.eq_all hW5 (Or.inr (by simp))); clear hW5) | fail)
  have r0 := OR5.out.cell 0; have r1 := OR5.out.cell 1; have r2 := OR5.out.cell 2; have r3 := OR5.out.cell 3; have r4 := OR5.out.cell 4; have r5 := OR5.out.cell 5; have r6 := OR5.out.cell 6; have r7 := OR5.out.cell 7; have r8 := OR5.out.cell 8; have r9 := OR5.out.cell 9; have r10 := OR5.out.cell 10
  exact bodyPost_ret (v := .tuple #[.agg #[.int .i64 0, .int .i64 0, .bool false, .bool false, .int .i64 0, .int .i64 0, .int .i64 0, .int .u32 0, .int .u32 0, .slice none 0 0, .slice none 0 0], .int .i64 5]) (by simp [results, Tryd.results19, go_sem, *]) rfl ⟨rfl, QB5.out⟩
end Go.Proofs.YtaoeflngdlgboaaDoor.ip
