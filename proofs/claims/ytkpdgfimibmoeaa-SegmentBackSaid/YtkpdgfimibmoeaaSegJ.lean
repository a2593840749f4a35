/-
  Chapter 14 (segment): the document's own Reset, and two segments held against one another, by a walk of its text. Conditions: none but those typed.
-/
import Derived.Test.YtkpdgfimibmoeaaSegH
import Derived.Test.YtkpdgfimibmoeaaSegI
import Derived.Test.YtkpdgfimibmoeaaHlp14
namespace Go.Proofs.Ytkpdgfimibmoeaa.seg
set_option linter.unusedVariables false
set_option linter.unusedSimpArgs false
open Go.ChangeShapes Go.WideShapes Go.ChangeAt Go.RowKit Go.IntWalk Go.Lib
set_option maxHeartbeats 20000000 in
theorem ref4 (w : World) (fr to sq ac : Int) (fp tp fl wi ms sc : Int) (A : Option Addr) (n c : Nat) (hn : n ≤ 1000000) (h4_ : hs fl 4 = true) :
    Calls Try.prog 22 #[.agg #[.int .u32 fr, .int .i64 fp, .int .u32 to, .int .i64 tp, .int .u32 sq, .int .u32 ac, .int .i64 fl, .int .i64 wi, .int .i64 ms, .int .i64 sc, .slice A n c]] w fun x w' => x = .returned (.tuple #[.agg #[.int .u32 0, .int .i64 0, .int .u32 0, .int .i64 0, .int .u32 0, .int .u32 0, .int .i64 0, .int .i64 0, .int .i64 0, .int .i64 0, .slice none 0 0], .bool false]) ∧ Only [] w w' := by
  have OB : Hid (Ob (w.alloc (.cells #[.int .u32 fr, .int .i64 fp, .int .u32 to, .int .i64 tp, .int .u32 sq, .int .u32 ac, .int .i64 fl, .int .i64 wi, .int .i64 ms, .int .i64 sc, .slice A n c] 26)) w.heap.size 26 #[.int .u32 fr, .int .i64 fp, .int .u32 to, .int .i64 tp, .int .u32 sq, .int .u32 ac, .int .i64 fl, .int .i64 wi, .int .i64 ms, .int .i64 sc, .slice A n c]) := hid (Ob.new _ _ _)
  have QB : Hid (Only [] w (w.alloc (.cells #[.int .u32 fr, .int .i64 fp, .int .u32 to, .int .i64 tp, .int .u32 sq, .int .u32 ac, .int .i64 fl, .int .i64 wi, .int .i64 ms, .int .i64 sc, .slice A n c] 26))) := hid ((Only.refl [] w).alloc _)
  have h4 := hid h4_
  have QB := hid (QB.out.alloc (.cells #[.int .u32 0, .int .i64 0, .int .u32 0, .int .i64 0, .int .u32 0, .int .u32 0, .int .i64 0, .int .i64 0, .int .i64 0, .int .i64 0, .slice none 0 0] 26))
  have OR : Hid (Ob ((w.alloc (.cells #[.int .u32 fr, .int .i64 fp, .int .u32 to, .int .i64 tp, .int .u32 sq, .int .u32 ac, .int .i64 fl, .int .i64 wi, .int .i64 ms, .int .i64 sc, .slice A n c] 26)).alloc (.cells #[.int .u32 0, .int .i64 0, .int .u32 0, .int .i64 0, .int .u32 0, .int .u32 0, .int .i64 0, .int .i64 0, .int .i64 0, .int .i64 0, .slice none 0 0] 26)) (w.heap.size + 1) 26 #[.int .u32 0, .int .i64 0, .int .u32 0, .int .i64 0, .int .u32 0, .int .u32 0, .int .i64 0, .int .i64 0, .int .i64 0, .int .i64 0, .slice none 0 0]) := hid (ob_new _ _ _ _ (by simp))
  have OB := hid (OB.out.alloc (.cells #[.int .u32 0, .int .i64 0, .int .u32 0, .int .i64 0, .int .u32 0, .int .u32 0, .int .i64 0, .int .i64 0, .int .i64 0, .int .i64 0, .slice none 0 0] 26))
  clear h4_
  go_enter Try.func22, Try.ntmps22
  go_wp2_with fail
  refine (has1 _ fr to sq ac fp tp fl wi ms sc 4 A n c).mono ?_
  rintro x w2 ⟨rfl, q⟩
  rw [h4.out]
  have OB := hid (OB.out.only q (by simp)); have OR := hid (OR.out.only q (by simp)); have QB := hid (QB.out.trans q); clear q
  go_wp2_with (first
    | (refine wp_loadOb rfl 26 _ rfl _ rfl _ _ OB.out Try.underlying26 rfl (by kernel_rfl) ?_; try simp only [Act.put, List.setIfInBounds_toArray, List.set_cons_zero, List.set_cons_succ])
    | (refine wp_storeOb rfl 26 _ _ rfl _ _ rfl rfl _ _ OR.out rfl (by kernel_rfl) (by simp [Value.oneCell']) (fun W5 hW5 => ?_); try simp only [Act.put, List.setIfInBounds_toArray, List.set_cons_zero, List.set_cons_succ]; have OR5 := hid (OR.out.eq_all hW5 rfl); have QB5 := hid (QB.out.eq_all hW5 (Or.inr (by simp; try omega))); clear hW5))
  have r0 := OR5.out.cell 0; have r1 := OR5.out.cell 1; have r2 := OR5.out.cell 2; have r3 := OR5.out.cell 3; have r4 := OR5.out.cell 4; have r5 := OR5.out.cell 5; have r6 := OR5.out.cell 6; have r7 := OR5.out.cell 7; have r8 := OR5.out.cell 8; have r9 := OR5.out.cell 9; have r10 := OR5.out.cell 10
  refine bodyPost_ret (v := .tuple #[.agg #[.int .u32 0, .int .i64 0, .int .u32 0, .int .i64 0, .int .u32 0, .int .u32 0, .int .i64 0, .int .i64 0, .int .i64 0, .int .i64 0, .slice none 0 0], .bool false]) (by simp [results, Try.results22, go_sem, *]) rfl ⟨rfl, QB5.out⟩
set_option maxHeartbeats 20000000 in
theorem refA (w : World) (fr to sq ac : Int) (fp tp fl wi ms sc : Int) (A : Option Addr) (n c : Nat) (hn : n ≤ 1000000) (h4_ : hs fl 4 = false) (h16_ : hs fl 16 = true) :
    Calls Try.prog 22 #[.agg #[.int .u32 fr, .int .i64 fp, .int .u32 to, .int .i64 tp, .int .u32 sq, .int .u32 ac, .int .i64 fl, .int .i64 wi, .int .i64 ms, .int .i64 sc, .slice A n c]] w fun x w' => x = .returned (.tuple #[.agg #[.int .u32 to, .int .i64 tp, .int .u32 fr, .int .i64 fp, .int .u32 ac, .int .u32 0, .int .i64 4, .int .i64 0, .int .i64 0, .int .i64 (-1), .slice none 0 0], .bool true]) ∧ Only [] w w' := by
  have OB : Hid (Ob (w.alloc (.cells #[.int .u32 fr, .int .i64 fp, .int .u32 to, .int .i64 tp, .int .u32 sq, .int .u32 ac, .int .i64 fl, .int .i64 wi, .int .i64 ms, .int .i64 sc, .slice A n c] 26)) w.heap.size 26 #[.int .u32 fr, .int .i64 fp, .int .u32 to, .int .i64 tp, .int .u32 sq, .int .u32 ac, .int .i64 fl, .int .i64 wi, .int .i64 ms, .int .i64 sc, .slice A n c]) := hid (Ob.new _ _ _)
  have QB : Hid (Only [] w (w.alloc (.cells #[.int .u32 fr, .int .i64 fp, .int .u32 to, .int .i64 tp, .int .u32 sq, .int .u32 ac, .int .i64 fl, .int .i64 wi, .int .i64 ms, .int .i64 sc, .slice A n c] 26))) := hid ((Only.refl [] w).alloc _)
  have h16 := hid h16_; clear h16_
  have h4 := hid h4_
  have QB := hid (QB.out.alloc (.cells #[.int .u32 0, .int .i64 0, .int .u32 0, .int .i64 0, .int .u32 0, .int .u32 0, .int .i64 0, .int .i64 0, .int .i64 0, .int .i64 0, .slice none 0 0] 26))
  have OR : Hid (Ob ((w.alloc (.cells #[.int .u32 fr, .int .i64 fp, .int .u32 to, .int .i64 tp, .int .u32 sq, .int .u32 ac, .int .i64 fl, .int .i64 wi, .int .i64 ms, .int .i64 sc, .slice A n c] 26)).alloc (.cells #[.int .u32 0, .int .i64 0, .int .u32 0, .int .i64 0, .int .u32 0, .int .u32 0, .int .i64 0, .int .i64 0, .int .i64 0, .int .i64 0, .slice none 0 0] 26)) (w.heap.size + 1) 26 #[.int .u32 0, .int .i64 0, .int .u32 0, .int .i64 0, .int .u32 0, .int .u32 0, .int .i64 0, .int .i64 0, .int .i64 0, .int .i64 0, .slice none 0 0]) := hid (ob_new _ _ _ _ (by simp))
  have OB := hid (OB.out.alloc (.cells #[.int .u32 0, .int .i64 0, .int .u32 0, .int .i64 0, .int .u32 0, .int .u32 0, .int .i64 0, .int .i64 0, .int .i64 0, .int .i64 0, .slice none 0 0] 26))
  clear h4_
  go_enter Try.func22, Try.ntmps22
  go_wp2_with fail
  refine (has1 _ fr to sq ac fp tp fl wi ms sc 4 A n c).mono ?_
  rintro x w2 ⟨rfl, q⟩
  rw [h4.out]
  have OB := hid (OB.out.only q (by simp)); have OR := hid (OR.out.only q (by simp)); have QB := hid (QB.out.trans q); clear q
  have k0 := OB.out.cell 0; have k1 := OB.out.cell 1; have k2 := OB.out.cell 2; have k3 := OB.out.cell 3; have k4 := OB.out.cell 4; have k5 := OB.out.cell 5; have k6 := OB.out.cell 6; have k7 := OB.out.cell 7; have k8 := OB.out.cell 8; have k9 := OB.out.cell 9; have k10 := OB.out.cell 10
  have hz0 := OR.out.lt; have hz00 := OB.out.lt
  go_wp2_with fail
  have OC : Hid (Ob (w2.alloc (.cells #[.int .u32 to, .int .i64 tp, .int .u32 fr, .int .i64 fp, .int .u32 0, .int .u32 0, .int .i64 0, .int .i64 0, .int .i64 0, .int .i64 (-1), .slice none 0 0] 26)) w2.heap.size 26 #[.int .u32 to, .int .i64 tp, .int .u32 fr, .int .i64 fp, .int .u32 0, .int .u32 0, .int .i64 0, .int .i64 0, .int .i64 0, .int .i64 (-1), .slice none 0 0]) := hid (ob_new _ _ _ _ rfl)
  have OB := hid (OB.out.alloc (.cells #[.int .u32 to, .int .i64 tp, .int .u32 fr, .int .i64 fp, .int .u32 0, .int .u32 0, .int .i64 0, .int .i64 0, .int .i64 0, .int .i64 (-1), .slice none 0 0] 26)); have OR := hid (OR.out.alloc (.cells #[.int .u32 to, .int .i64 tp, .int .u32 fr, .int .i64 fp, .int .u32 0, .int .u32 0, .int .i64 0, .int .i64 0, .int .i64 0, .int .i64 (-1), .slice none 0 0] 26)); have QB := hid (QB.out.alloc (.cells #[.int .u32 to, .int .i64 tp, .int .u32 fr, .int .i64 fp, .int .u32 0, .int .u32 0, .int .i64 0, .int .i64 0, .int .i64 0, .int .i64 (-1), .slice none 0 0] 26)); have hz1 := QB.out.size
  refine (has1 _ fr to sq ac fp tp fl wi ms sc 16 A n c).mono ?_
  rintro x w3 ⟨rfl, q⟩
  rw [h16.out]
  have OB := hid (OB.out.only q (by simp)); have OR := hid (OR.out.only q (by simp)); have OC := hid (OC.out.only q (by simp)); have hzq := q.size; have QB := hid (QB.out.trans q); clear q
  clear k0 k1 k2 k3 k4 k5 k6 k7 k8 k9 k10
  have k0 := OB.out.cell 0; have k1 := OB.out.cell 1; have k2 := OB.out.cell 2; have k3 := OB.out.cell 3; have k4 := OB.out.cell 4; have k5 := OB.out.cell 5; have k6 := OB.out.cell 6; have k7 := OB.out.cell 7; have k8 := OB.out.cell 8; have k9 := OB.out.cell 9; have k10 := OB.out.cell 10; have c6 := OC.out.cell 6; have cf6 := OC.out.frozen 6; have c4 := OC.out.cell 4; have cf4 := OC.out.frozen 4
  have hz2 := OC.out.lt
  have hn1 : ¬ w.heap.size = w2.heap.size := by omega
  have hn2 : ¬ w.heap.size + 1 = w2.heap.size := by omega
  have hn3 : ¬ w2.heap.size = w.heap.size := by omega
  have hn4 : ¬ w2.heap.size = w.heap.size + 1 := by omega
  have hn5 : w.heap.size < w2.heap.size := by omega
  have hn6 : w.heap.size ≤ w2.heap.size := by omega
  have OC2 : Hid (Ob ((w3.setCell ⟨w2.heap.size, 6, none⟩ (.int .i64 4)).setCell ⟨w2.heap.size, 4, none⟩ (.int .u32 ac)) w2.heap.size 26 #[.int .u32 to, .int .i64 tp, .int .u32 fr, .int .i64 fp, .int .u32 ac, .int .u32 0, .int .i64 4, .int .i64 0, .int .i64 0, .int .i64 (-1), .slice none 0 0]) := hid ((OC.out.set 6 (.int .i64 4)).set 4 (.int .u32 ac))
  have OR2 := hid ((OR.out.far (p := ⟨w2.heap.size, 6, none⟩) hn2 (.int .i64 4)).far (p := ⟨w2.heap.size, 4, none⟩) hn2 (.int .u32 ac))
  have Q2 := hid ((QB.out.setCell (p := ⟨w2.heap.size, 6, none⟩) (Or.inr hn6) (.int .i64 4)).setCell (p := ⟨w2.heap.size, 4, none⟩) (Or.inr hn6) (.int .u32 ac))
  go_wp2_with (first
    | (refine wp_loadOb rfl 26 _ rfl _ rfl _ _ OC2.out Try.underlying26 rfl (by kernel_rfl) ?_; try simp only [Act.put, List.setIfInBounds_toArray, List.set_cons_zero, List.set_cons_succ])
    | (refine wp_storeOb rfl 26 _ _ rfl _ _ rfl rfl _ _ OR2.out rfl (by kernel_rfl) (by simp [Value.oneCell']) (fun W5 hW5 => ?_); try simp only [Act.put, List.setIfInBounds_toArray, List.set_cons_zero, List.set_cons_succ]; have OR5 := hid (OR2.out.eq_all hW5 rfl); have QB5 := hid (Q2.out.eq_all hW5 (Or.inr (by simp; try omega))); clear hW5))
  have r0 := OR5.out.cell 0; have r1 := OR5.out.cell 1; have r2 := OR5.out.cell 2; have r3 := OR5.out.cell 3; have r4 := OR5.out.cell 4; have r5 := OR5.out.cell 5; have r6 := OR5.out.cell 6; have r7 := OR5.out.cell 7; have r8 := OR5.out.cell 8; have r9 := OR5.out.cell 9; have r10 := OR5.out.cell 10
  refine bodyPost_ret (v := .tuple #[.agg #[.int .u32 to, .int .i64 tp, .int .u32 fr, .int .i64 fp, .int .u32 ac, .int .u32 0, .int .i64 4, .int .i64 0, .int .i64 0, .int .i64 (-1), .slice none 0 0], .bool true]) (by simp [results, Try.results22, go_sem, *]) rfl ⟨rfl, QB5.out⟩
set_option maxHeartbeats 20000000 in
theorem refB (w : World) (fr to sq ac : Int) (fp tp fl wi ms sc : Int) (A : Option Addr) (n c : Nat) (hn : n ≤ 1000000) (h4_ : hs fl 4 = false) (h16_ : hs fl 16 = false) :
    Calls Try.prog 22 #[.agg #[.int .u32 fr, .int .i64 fp, .int .u32 to, .int .i64 tp, .int .u32 sq, .int .u32 ac, .int .i64 fl, .int .i64 wi, .int .i64 ms, .int .i64 sc, .slice A n c]] w fun x w' => x = .returned (.tuple #[.agg #[.int .u32 to, .int .i64 tp, .int .u32 fr, .int .i64 fp, .int .u32 0, .int .u32 (IntKind.u32.wrap (sq + IntKind.u32.wrap (sl n fl))), .int .i64 20, .int .i64 0, .int .i64 0, .int .i64 (-1), .slice none 0 0], .bool true]) ∧ Only [] w w' := by
  have OB : Hid (Ob (w.alloc (.cells #[.int .u32 fr, .int .i64 fp, .int .u32 to, .int .i64 tp, .int .u32 sq, .int .u32 ac, .int .i64 fl, .int .i64 wi, .int .i64 ms, .int .i64 sc, .slice A n c] 26)) w.heap.size 26 #[.int .u32 fr, .int .i64 fp, .int .u32 to, .int .i64 tp, .int .u32 sq, .int .u32 ac, .int .i64 fl, .int .i64 wi, .int .i64 ms, .int .i64 sc, .slice A n c]) := hid (Ob.new _ _ _)
  have QB : Hid (Only [] w (w.alloc (.cells #[.int .u32 fr, .int .i64 fp, .int .u32 to, .int .i64 tp, .int .u32 sq, .int .u32 ac, .int .i64 fl, .int .i64 wi, .int .i64 ms, .int .i64 sc, .slice A n c] 26))) := hid ((Only.refl [] w).alloc _)
  have h16 := hid h16_; clear h16_
  have h4 := hid h4_
  have QB := hid (QB.out.alloc (.cells #[.int .u32 0, .int .i64 0, .int .u32 0, .int .i64 0, .int .u32 0, .int .u32 0, .int .i64 0, .int .i64 0, .int .i64 0, .int .i64 0, .slice none 0 0] 26))
  have OR : Hid (Ob ((w.alloc (.cells #[.int .u32 fr, .int .i64 fp, .int .u32 to, .int .i64 tp, .int .u32 sq, .int .u32 ac, .int .i64 fl, .int .i64 wi, .int .i64 ms, .int .i64 sc, .slice A n c] 26)).alloc (.cells #[.int .u32 0, .int .i64 0, .int .u32 0, .int .i64 0, .int .u32 0, .int .u32 0, .int .i64 0, .int .i64 0, .int .i64 0, .int .i64 0, .slice none 0 0] 26)) (w.heap.size + 1) 26 #[.int .u32 0, .int .i64 0, .int .u32 0, .int .i64 0, .int .u32 0, .int .u32 0, .int .i64 0, .int .i64 0, .int .i64 0, .int .i64 0, .slice none 0 0]) := hid (ob_new _ _ _ _ (by simp))
  have OB := hid (OB.out.alloc (.cells #[.int .u32 0, .int .i64 0, .int .u32 0, .int .i64 0, .int .u32 0, .int .u32 0, .int .i64 0, .int .i64 0, .int .i64 0, .int .i64 0, .slice none 0 0] 26))
  clear h4_
  go_enter Try.func22, Try.ntmps22
  go_wp2_with fail
  refine (has1 _ fr to sq ac fp tp fl wi ms sc 4 A n c).mono ?_
  rintro x w2 ⟨rfl, q⟩
  rw [h4.out]
  have OB := hid (OB.out.only q (by simp)); have OR := hid (OR.out.only q (by simp)); have QB := hid (QB.out.trans q); clear q
  have k0 := OB.out.cell 0; have k1 := OB.out.cell 1; have k2 := OB.out.cell 2; have k3 := OB.out.cell 3; have k4 := OB.out.cell 4; have k5 := OB.out.cell 5; have k6 := OB.out.cell 6; have k7 := OB.out.cell 7; have k8 := OB.out.cell 8; have k9 := OB.out.cell 9; have k10 := OB.out.cell 10
  have hz0 := OR.out.lt; have hz00 := OB.out.lt
  go_wp2_with fail
  have OC : Hid (Ob (w2.alloc (.cells #[.int .u32 to, .int .i64 tp, .int .u32 fr, .int .i64 fp, .int .u32 0, .int .u32 0, .int .i64 0, .int .i64 0, .int .i64 0, .int .i64 (-1), .slice none 0 0] 26)) w2.heap.size 26 #[.int .u32 to, .int .i64 tp, .int .u32 fr, .int .i64 fp, .int .u32 0, .int .u32 0, .int .i64 0, .int .i64 0, .int .i64 0, .int .i64 (-1), .slice none 0 0]) := hid (ob_new _ _ _ _ rfl)
  have OB := hid (OB.out.alloc (.cells #[.int .u32 to, .int .i64 tp, .int .u32 fr, .int .i64 fp, .int .u32 0, .int .u32 0, .int .i64 0, .int .i64 0, .int .i64 0, .int .i64 (-1), .slice none 0 0] 26)); have OR := hid (OR.out.alloc (.cells #[.int .u32 to, .int .i64 tp, .int .u32 fr, .int .i64 fp, .int .u32 0, .int .u32 0, .int .i64 0, .int .i64 0, .int .i64 0, .int .i64 (-1), .slice none 0 0] 26)); have QB := hid (QB.out.alloc (.cells #[.int .u32 to, .int .i64 tp, .int .u32 fr, .int .i64 fp, .int .u32 0, .int .u32 0, .int .i64 0, .int .i64 0, .int .i64 0, .int .i64 (-1), .slice none 0 0] 26)); have hz1 := QB.out.size
  refine (has1 _ fr to sq ac fp tp fl wi ms sc 16 A n c).mono ?_
  rintro x w3 ⟨rfl, q⟩
  rw [h16.out]
  have OB := hid (OB.out.only q (by simp)); have OR := hid (OR.out.only q (by simp)); have OC := hid (OC.out.only q (by simp)); have hzq := q.size; have QB := hid (QB.out.trans q); clear q
  clear k0 k1 k2 k3 k4 k5 k6 k7 k8 k9 k10
  have k0 := OB.out.cell 0; have k1 := OB.out.cell 1; have k2 := OB.out.cell 2; have k3 := OB.out.cell 3; have k4 := OB.out.cell 4; have k5 := OB.out.cell 5; have k6 := OB.out.cell 6; have k7 := OB.out.cell 7; have k8 := OB.out.cell 8; have k9 := OB.out.cell 9; have k10 := OB.out.cell 10; have c6 := OC.out.cell 6; have cf6 := OC.out.frozen 6
  have hz2 := OC.out.lt
  have hn1 : w.heap.size ≠ w2.heap.size := by omega
  have hn2 : w.heap.size + 1 ≠ w2.heap.size := by omega
  have hn3 : ¬ w2.heap.size = w.heap.size := by omega
  have hn4 : ¬ w2.heap.size = w.heap.size + 1 := by omega
  have hn5 : w.heap.size < w2.heap.size := by omega
  have hn6 : w.heap.size ≤ w2.heap.size := by omega
  go_wp2_with fail
  refine wp_region_noPanic ?_
  refine rgn.region (R := Only [w2.heap.size]) (by kernel_rfl) (Only.refl _) (fun _ _ _ => Only.trans) (fun _ _ _ _ _ h => h) [(0, true), (1, true), (2, true), (3, false), (4, true), (5, true), (6, true), (7, false)] (by kernel_rfl) (fun W hWd => ?_)
  have HWd := hid hWd; clear hWd
  have OBW := hid (Ob.eq_drew (OB.out.far (p := ⟨w2.heap.size, 6, none⟩) hn1 (.int .i64 20)) HWd.out); have ORW := hid (Ob.eq_drew (OR.out.far (p := ⟨w2.heap.size, 6, none⟩) hn2 (.int .i64 20)) HWd.out); have OCW := hid (Ob.eq_drew (OC.out.set 6 (.int .i64 20)) HWd.out)
  have QW : Hid (Only [] w W) := hid (Only.eq_drew (QB.out.setCell (p := ⟨w2.heap.size, 6, none⟩) (Or.inr hn6) (.int .i64 20)) HWd.out)
  clear HWd
  clear k0 k1 k2 k3 k4 k5 k6 k7 k8 k9 k10
  have k0 := OBW.out.cell 0; have k1 := OBW.out.cell 1; have k2 := OBW.out.cell 2; have k3 := OBW.out.cell 3; have k4 := OBW.out.cell 4; have k5 := OBW.out.cell 5; have k6 := OBW.out.cell 6; have k7 := OBW.out.cell 7; have k8 := OBW.out.cell 8; have k9 := OBW.out.cell 9; have k10 := OBW.out.cell 10
  refine rgn.Sched.y (v := ?_) rfl rfl rfl ?_ ?_
  rotate_left 1
  · intro W' hW'
    go_simp
    try with_reducible rfl
  try simp only [Act.put, List.setIfInBounds_toArray, List.set_cons_zero, List.set_cons_succ]
  refine rgn.Sched.y (v := ?_) rfl rfl rfl ?_ ?_
  rotate_left 1
  · intro W' hW'
    have q0 := hW'.keepN k4 (by simpa using hn1)
    go_simp
    try with_reducible rfl
  try simp only [Act.put, List.setIfInBounds_toArray, List.set_cons_zero, List.set_cons_succ]
  refine rgn.Sched.y (v := ?_) rfl rfl rfl ?_ ?_
  rotate_left 1
  · intro W' hW'
    have q0 := hW'.keepN k0 (by simpa using hn1)
    have q1 := hW'.keepN k1 (by simpa using hn1)
    have q2 := hW'.keepN k2 (by simpa using hn1)
    have q3 := hW'.keepN k3 (by simpa using hn1)
    have q4 := hW'.keepN k4 (by simpa using hn1)
    have q5 := hW'.keepN k5 (by simpa using hn1)
    have q6 := hW'.keepN k6 (by simpa using hn1)
    have q7 := hW'.keepN k7 (by simpa using hn1)
    have q8 := hW'.keepN k8 (by simpa using hn1)
    have q9 := hW'.keepN k9 (by simpa using hn1)
    have q10 := hW'.keepN k10 (by simpa using hn1)
    go_simp
    try with_reducible rfl
  try simp only [Act.put, List.setIfInBounds_toArray, List.set_cons_zero, List.set_cons_succ]
  refine rgn.Sched.e rfl rfl (fun K hK => ?_)
  go_simp
  refine (lenR _ fr to sq ac fp tp fl wi ms sc A n c hn).mono ?_
  rintro x w4 ⟨rfl, q2⟩
  refine hK _ _ (q2.more (by simp)) ?_
  clear hK K
  try simp only [Act.put, List.setIfInBounds_toArray, List.set_cons_zero, List.set_cons_succ]
  have OBW := hid (OBW.out.only q2 (by simp)); have ORW := hid (ORW.out.only q2 (by simp)); have OCW := hid (OCW.out.only q2 (by simp)); have QW := hid (QW.out.trans q2); clear q2
  generalize hLen : sl n fl = len
  have HLen := hid hLen; clear hLen
  clear k0 k1 k2 k3 k4 k5 k6 k7 k8 k9 k10
  refine rgn.Sched.y (v := ?_) rfl rfl rfl ?_ ?_
  rotate_left 1
  · intro W' hW'
    go_simp
    try with_reducible rfl
  try simp only [Act.put, List.setIfInBounds_toArray, List.set_cons_zero, List.set_cons_succ]
  refine rgn.Sched.y (v := ?_) rfl rfl rfl ?_ ?_
  rotate_left 1
  · intro W' hW'
    go_simp
    try with_reducible rfl
  try simp only [Act.put, List.setIfInBounds_toArray, List.set_cons_zero, List.set_cons_succ]
  refine rgn.Sched.y (v := ?_) rfl rfl rfl ?_ ?_
  rotate_left 1
  · intro W' hW'
    go_simp
    try with_reducible rfl
  try simp only [Act.put, List.setIfInBounds_toArray, List.set_cons_zero, List.set_cons_succ]
  refine rgn.Sched.e rfl rfl (fun K hK => ?_)
  have c5 := OCW.out.cell 5; have f5 := OCW.out.frozen 5
  go_simp
  refine hK _ _ ((Only.refl _ _).setCell (p := ⟨w2.heap.size, 5, none⟩) (Or.inl (by simp)) _) ?_
  clear hK K c5 f5
  refine rgn.Sched.world (fun w5 hw5 => ?_)
  try simp only [Act.put, List.setIfInBounds_toArray, List.set_cons_zero, List.set_cons_succ]
  have OB := hid (OBW.out.eq_far hw5 hn1); have OR := hid (ORW.out.eq_far hw5 hn2); have OC := hid (OCW.out.eq_set hw5); have QB := hid (QW.out.eq_set hw5 (Or.inr hn6)); clear hw5
  refine rgn.Sched.z (NoPanic.normal ?_)
  go_wp2_with (first
    | (refine wp_loadOb rfl 26 _ rfl _ rfl _ _ OC.out Try.underlying26 rfl (by kernel_rfl) ?_; try simp only [Act.put, List.setIfInBounds_toArray, List.set_cons_zero, List.set_cons_succ])
    | (refine wp_storeOb rfl 26 _ _ rfl _ _ rfl rfl _ _ OR.out rfl (by kernel_rfl) (by simp [Value.oneCell']) (fun W5 hW5 => ?_); try simp only [Act.put, List.setIfInBounds_toArray, List.set_cons_zero, List.set_cons_succ]; have OR5 := hid (OR.out.eq_all hW5 rfl); have QB5 := hid (QB.out.eq_all hW5 (Or.inr (by simp; try omega))); clear hW5))
  have r0 := OR5.out.cell 0; have r1 := OR5.out.cell 1; have r2 := OR5.out.cell 2; have r3 := OR5.out.cell 3; have r4 := OR5.out.cell 4; have r5 := OR5.out.cell 5; have r6 := OR5.out.cell 6; have r7 := OR5.out.cell 7; have r8 := OR5.out.cell 8; have r9 := OR5.out.cell 9; have r10 := OR5.out.cell 10
  refine bodyPost_ret (v := .tuple #[.agg #[.int .u32 to, .int .i64 tp, .int .u32 fr, .int .i64 fp, .int .u32 0, .int .u32 (IntKind.u32.wrap (sq + IntKind.u32.wrap (len))), .int .i64 20, .int .i64 0, .int .i64 0, .int .i64 (-1), .slice none 0 0], .bool true]) (by simp [results, Try.results22, go_sem, *]) rfl ⟨by rw [HLen.out], QB5.out⟩
set_option maxHeartbeats 8000000 in
theorem segs (w : World) (fr to sq ac : Int) (fp tp fl wi ms sc : Int) (A B : Option Addr) (n c d : Nat) (l : List Int) (hA : Rd .u8 w A n l) (hB : Rd .u8 w B n l) (hn : n ≤ 140737488355328) :
    Calls Try.prog 18 #[.agg #[.int .u32 fr, .int .i64 fp, .int .u32 to, .int .i64 tp, .int .u32 sq, .int .u32 ac, .int .i64 fl, .int .i64 wi, .int .i64 ms, .int .i64 sc, .slice A n c], .agg #[.int .u32 fr, .int .i64 fp, .int .u32 to, .int .i64 tp, .int .u32 sq, .int .u32 ac, .int .i64 fl, .int .i64 wi, .int .i64 ms, .int .i64 sc, .slice B n d]] w fun x w' => x = .returned (.bool true) ∧ Only [] w w' := by
  have HA := hid hA; have HB := hid hB; clear hA hB
  have O1 : Hid (Ob (w.alloc (.cells #[.int .u32 fr, .int .i64 fp, .int .u32 to, .int .i64 tp, .int .u32 sq, .int .u32 ac, .int .i64 fl, .int .i64 wi, .int .i64 ms, .int .i64 sc, .slice A n c] 26)) w.heap.size 26 #[.int .u32 fr, .int .i64 fp, .int .u32 to, .int .i64 tp, .int .u32 sq, .int .u32 ac, .int .i64 fl, .int .i64 wi, .int .i64 ms, .int .i64 sc, .slice A n c]) := hid (Ob.new _ _ _)
  have O1 := hid (O1.out.alloc (.cells #[.int .u32 fr, .int .i64 fp, .int .u32 to, .int .i64 tp, .int .u32 sq, .int .u32 ac, .int .i64 fl, .int .i64 wi, .int .i64 ms, .int .i64 sc, .slice B n d] 26))
  have O2 : Hid (Ob ((w.alloc (.cells #[.int .u32 fr, .int .i64 fp, .int .u32 to, .int .i64 tp, .int .u32 sq, .int .u32 ac, .int .i64 fl, .int .i64 wi, .int .i64 ms, .int .i64 sc, .slice A n c] 26)).alloc (.cells #[.int .u32 fr, .int .i64 fp, .int .u32 to, .int .i64 tp, .int .u32 sq, .int .u32 ac, .int .i64 fl, .int .i64 wi, .int .i64 ms, .int .i64 sc, .slice B n d] 26)) (w.heap.size + 1) 26 #[.int .u32 fr, .int .i64 fp, .int .u32 to, .int .i64 tp, .int .u32 sq, .int .u32 ac, .int .i64 fl, .int .i64 wi, .int .i64 ms, .int .i64 sc, .slice B n d]) := hid (ob_new _ _ _ _ (by simp))
  have QB : Hid (Only [] w ((w.alloc (.cells #[.int .u32 fr, .int .i64 fp, .int .u32 to, .int .i64 tp, .int .u32 sq, .int .u32 ac, .int .i64 fl, .int .i64 wi, .int .i64 ms, .int .i64 sc, .slice A n c] 26)).alloc (.cells #[.int .u32 fr, .int .i64 fp, .int .u32 to, .int .i64 tp, .int .u32 sq, .int .u32 ac, .int .i64 fl, .int .i64 wi, .int .i64 ms, .int .i64 sc, .slice B n d] 26))) := hid (((Only.refl [] w).alloc _).alloc _)
  have k0 := O1.out.cell 0; have k1 := O1.out.cell 1; have k2 := O1.out.cell 2; have k3 := O1.out.cell 3; have k4 := O1.out.cell 4; have k5 := O1.out.cell 5; have k6 := O1.out.cell 6; have k7 := O1.out.cell 7; have k8 := O1.out.cell 8; have k9 := O1.out.cell 9; have k10 := O1.out.cell 10
  have r0 := O2.out.cell 0; have r1 := O2.out.cell 1; have r2 := O2.out.cell 2; have r3 := O2.out.cell 3; have r4 := O2.out.cell 4; have r5 := O2.out.cell 5; have r6 := O2.out.cell 6; have r7 := O2.out.cell 7; have r8 := O2.out.cell 8; have r9 := O2.out.cell 9; have r10 := O2.out.cell 10
  go_enter Try.func18, Try.ntmps18
  go_wp2_with fail
  refine (callsOnly (hlp.same _ A B n n c d l l (HA.out.only_nil QB.out) (HB.out.only_nil QB.out) hn hn)).mono ?_
  rintro x w2 ⟨rfl, q⟩
  rw [show decide (l = l) = true from by simp]
  have QB := hid (QB.out.trans q); clear q
  go_wp2
  go_ret
  exact ⟨rfl, QB.out⟩
end Go.Proofs.Ytkpdgfimibmoeaa.seg
