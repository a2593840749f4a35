/-
  Chapter 14 (segment): Reset, by a walk of its text. Conditions: none but those typed.
-/
import Derived.Test.YtkpdgfimibmoeaaSegH
import Derived.Test.YtkpdgfimibmoeaaStc
namespace Go.Proofs.Ytkpdgfimibmoeaa.seg
set_option linter.unusedVariables false
set_option linter.unusedSimpArgs false
open Go.ChangeShapes Go.WideShapes Go.ChangeAt Go.RowKit Go.IntWalk Go.Lib
theorem ob_new (w : World) (g : Nat) (t : TypeId) (cs : Array Value) (hg : g = w.heap.size) : Ob (w.alloc (.cells cs t)) g t cs := hg ▸ Ob.new w t cs
set_option maxHeartbeats 20000000 in
theorem rst4 (w : World) (fr to sq ac : Int) (fp tp fl wi ms sc : Int) (A : Option Addr) (n c : Nat) (hn : n ≤ 1000000) (h4 : hs fl 4 = true) :
    Calls Try.prog 21 #[.agg #[.int .u32 fr, .int .i64 fp, .int .u32 to, .int .i64 tp, .int .u32 sq, .int .u32 ac, .int .i64 fl, .int .i64 wi, .int .i64 ms, .int .i64 sc, .slice A n c]] w fun x w' => x = .returned (.tuple #[.agg #[.int .u32 0, .int .i64 0, .int .u32 0, .int .i64 0, .int .u32 0, .int .u32 0, .int .i64 0, .int .i64 0, .int .i64 0, .int .i64 0, .slice none 0 0], .bool false]) ∧ Only [] w w' := by
  have OB : Hid (Ob (w.alloc (.cells #[.int .u32 fr, .int .i64 fp, .int .u32 to, .int .i64 tp, .int .u32 sq, .int .u32 ac, .int .i64 fl, .int .i64 wi, .int .i64 ms, .int .i64 sc, .slice A n c] 26)) w.heap.size 26 #[.int .u32 fr, .int .i64 fp, .int .u32 to, .int .i64 tp, .int .u32 sq, .int .u32 ac, .int .i64 fl, .int .i64 wi, .int .i64 ms, .int .i64 sc, .slice A n c]) := hid (Ob.new _ _ _)
  have QB : Hid (Only [] w (w.alloc (.cells #[.int .u32 fr, .int .i64 fp, .int .u32 to, .int .i64 tp, .int .u32 sq, .int .u32 ac, .int .i64 fl, .int .i64 wi, .int .i64 ms, .int .i64 sc, .slice A n c] 26))) := hid ((Only.refl [] w).alloc _)
  have h4 : (bits .and .i64 fl 4 != 0) = true := h4
  go_enter Try.func21, Try.ntmps21
  go_wp2
  exact bodyPost_ret (v := .tuple #[.agg #[.int .u32 0, .int .i64 0, .int .u32 0, .int .i64 0, .int .u32 0, .int .u32 0, .int .i64 0, .int .i64 0, .int .i64 0, .int .i64 0, .slice none 0 0], .bool false]) (by simp [results, Try.results21, go_sem]) rfl ⟨rfl, by repeat (first | exact QB.out | exact Only.refl _ _ | refine Only.drewN ?_ _ | refine Only.drew ?_ | refine Only.setCell ?_ (Or.inr (by simp)) _ | refine Only.alloc ?_ _)⟩
set_option maxHeartbeats 20000000 in
theorem rstA (w : World) (fr to sq ac : Int) (fp tp fl wi ms sc : Int) (A : Option Addr) (n c : Nat) (hn : n ≤ 1000000) (h4 : hs fl 4 = false) (h16 : hs fl 16 = true) :
    Calls Try.prog 21 #[.agg #[.int .u32 fr, .int .i64 fp, .int .u32 to, .int .i64 tp, .int .u32 sq, .int .u32 ac, .int .i64 fl, .int .i64 wi, .int .i64 ms, .int .i64 sc, .slice A n c]] w fun x w' => x = .returned (.tuple #[.agg #[.int .u32 to, .int .i64 tp, .int .u32 fr, .int .i64 fp, .int .u32 ac, .int .u32 0, .int .i64 4, .int .i64 0, .int .i64 0, .int .i64 (-1), .slice none 0 0], .bool true]) ∧ Only [] w w' := by
  have OB : Hid (Ob (w.alloc (.cells #[.int .u32 fr, .int .i64 fp, .int .u32 to, .int .i64 tp, .int .u32 sq, .int .u32 ac, .int .i64 fl, .int .i64 wi, .int .i64 ms, .int .i64 sc, .slice A n c] 26)) w.heap.size 26 #[.int .u32 fr, .int .i64 fp, .int .u32 to, .int .i64 tp, .int .u32 sq, .int .u32 ac, .int .i64 fl, .int .i64 wi, .int .i64 ms, .int .i64 sc, .slice A n c]) := hid (Ob.new _ _ _)
  have QB : Hid (Only [] w (w.alloc (.cells #[.int .u32 fr, .int .i64 fp, .int .u32 to, .int .i64 tp, .int .u32 sq, .int .u32 ac, .int .i64 fl, .int .i64 wi, .int .i64 ms, .int .i64 sc, .slice A n c] 26))) := hid ((Only.refl [] w).alloc _)
  have h4 : (bits .and .i64 fl 4 != 0) = false := h4
  have h16 : (bits .and .i64 fl 16 != 0) = true := h16
  go_enter Try.func21, Try.ntmps21
  go_wp2_with fail
  go_region
  all_goals (go_wp2; exact bodyPost_ret (v := .tuple #[.agg #[.int .u32 to, .int .i64 tp, .int .u32 fr, .int .i64 fp, .int .u32 ac, .int .u32 0, .int .i64 4, .int .i64 0, .int .i64 0, .int .i64 (-1), .slice none 0 0], .bool true]) (by simp [results, Try.results21, go_sem, *]) rfl ⟨rfl, by repeat (first | exact QB.out | exact Only.refl _ _ | refine Only.drewN ?_ _ | refine Only.drew ?_ | refine Only.setCell ?_ (Or.inr (by simp)) _ | refine Only.alloc ?_ _)⟩)
set_option maxHeartbeats 20000000 in
theorem rstB (w : World) (fr to sq ac : Int) (fp tp fl wi ms sc : Int) (A : Option Addr) (n c : Nat) (hn : n ≤ 1000000) (h4 : hs fl 4 = false) (h16 : hs fl 16 = false) :
    Calls Try.prog 21 #[.agg #[.int .u32 fr, .int .i64 fp, .int .u32 to, .int .i64 tp, .int .u32 sq, .int .u32 ac, .int .i64 fl, .int .i64 wi, .int .i64 ms, .int .i64 sc, .slice A n c]] w fun x w' => x = .returned (.tuple #[.agg #[.int .u32 to, .int .i64 tp, .int .u32 fr, .int .i64 fp, .int .u32 0, .int .u32 (IntKind.u32.wrap (sq + IntKind.u32.wrap (sl n fl))), .int .i64 20, .int .i64 0, .int .i64 0, .int .i64 (-1), .slice none 0 0], .bool true]) ∧ Only [] w w' := by
  have OB : Hid (Ob (w.alloc (.cells #[.int .u32 fr, .int .i64 fp, .int .u32 to, .int .i64 tp, .int .u32 sq, .int .u32 ac, .int .i64 fl, .int .i64 wi, .int .i64 ms, .int .i64 sc, .slice A n c] 26)) w.heap.size 26 #[.int .u32 fr, .int .i64 fp, .int .u32 to, .int .i64 tp, .int .u32 sq, .int .u32 ac, .int .i64 fl, .int .i64 wi, .int .i64 ms, .int .i64 sc, .slice A n c]) := hid (Ob.new _ _ _)
  have QB : Hid (Only [] w (w.alloc (.cells #[.int .u32 fr, .int .i64 fp, .int .u32 to, .int .i64 tp, .int .u32 sq, .int .u32 ac, .int .i64 fl, .int .i64 wi, .int .i64 ms, .int .i64 sc, .slice A n c] 26))) := hid ((Only.refl [] w).alloc _)
  have h4 : (bits .and .i64 fl 4 != 0) = false := h4
  have h16 : (bits .and .i64 fl 16 != 0) = false := h16
  have OR : Hid (Ob ((w.alloc (.cells #[.int .u32 fr, .int .i64 fp, .int .u32 to, .int .i64 tp, .int .u32 sq, .int .u32 ac, .int .i64 fl, .int .i64 wi, .int .i64 ms, .int .i64 sc, .slice A n c] 26)).alloc (.cells #[.int .u32 0, .int .i64 0, .int .u32 0, .int .i64 0, .int .u32 0, .int .u32 0, .int .i64 0, .int .i64 0, .int .i64 0, .int .i64 0, .slice none 0 0] 26)) (w.heap.size + 1) 26 #[.int .u32 0, .int .i64 0, .int .u32 0, .int .i64 0, .int .u32 0, .int .u32 0, .int .i64 0, .int .i64 0, .int .i64 0, .int .i64 0, .slice none 0 0]) := hid (ob_new _ _ _ _ (by simp))
  go_enter Try.func21, Try.ntmps21
  go_wp2_with fail
  refine wp_region_noPanic ?_
  refine rgn.region (R := Only [(w.heap.size + 1 + 1)]) (by kernel_rfl) (Only.refl _) (fun _ _ _ => Only.trans) (fun _ _ _ _ _ h => h) [(0, true), (1, true), (2, true), (6, true), (3, false), (4, true), (5, true), (7, false), (8, true), (9, false)] (by kernel_rfl) (fun W hWd => ?_)
  have HWd := hid hWd; clear hWd
  have OBW := hid (Ob.eq_drew ((OB.out.alloc _).alloc _) HWd.out)
  have ORW := hid (Ob.eq_drew (OR.out.alloc _) HWd.out)
  have OCW := hid (Ob.eq_drew (g := w.heap.size + 1 + 1) (ob_new _ _ _ _ (by simp)) HWd.out)
  have QW : Hid (Only [] w W) := hid (Only.eq_drew ((QB.out.alloc _).alloc _) HWd.out)
  clear HWd
  have k0 := OBW.out.cell 0; have k1 := OBW.out.cell 1; have k2 := OBW.out.cell 2; have k3 := OBW.out.cell 3; have k4 := OBW.out.cell 4; have k5 := OBW.out.cell 5; have k6 := OBW.out.cell 6; have k7 := OBW.out.cell 7; have k8 := OBW.out.cell 8; have k9 := OBW.out.cell 9; have k10 := OBW.out.cell 10
  refine rgn.Sched.y (v := ?_) rfl rfl rfl ?_ ?_
  rotate_left 1
  · intro W' hW'
    go_simp
    try with_reducible rfl
  try simp only [Act.put, List.setIfInBounds_toArray, List.set_cons_zero, List.set_cons_succ]
  refine rgn.Sched.y (v := ?_) rfl rfl rfl ?_ ?_
  rotate_left 1
  · intro W' hW'
    have q0 := hW'.keepN k4 (by simp; try omega)
    go_simp
    try with_reducible rfl
  try simp only [Act.put, List.setIfInBounds_toArray, List.set_cons_zero, List.set_cons_succ]
  refine rgn.Sched.y (v := ?_) rfl rfl rfl ?_ ?_
  rotate_left 1
  · intro W' hW'
    have q0 := hW'.keepN k0 (by simp; try omega)
    have q1 := hW'.keepN k1 (by simp; try omega)
    have q2 := hW'.keepN k2 (by simp; try omega)
    have q3 := hW'.keepN k3 (by simp; try omega)
    have q4 := hW'.keepN k4 (by simp; try omega)
    have q5 := hW'.keepN k5 (by simp; try omega)
    have q6 := hW'.keepN k6 (by simp; try omega)
    have q7 := hW'.keepN k7 (by simp; try omega)
    have q8 := hW'.keepN k8 (by simp; try omega)
    have q9 := hW'.keepN k9 (by simp; try omega)
    have q10 := hW'.keepN k10 (by simp; try omega)
    go_simp
    try with_reducible rfl
  try simp only [Act.put, List.setIfInBounds_toArray, List.set_cons_zero, List.set_cons_succ]
  refine rgn.Sched.y (v := ?_) rfl rfl rfl ?_ ?_
  rotate_left 1
  · intro W' hW'
    go_simp
    try with_reducible rfl
  try simp only [Act.put, List.setIfInBounds_toArray, List.set_cons_zero, List.set_cons_succ]
  refine rgn.Sched.e rfl rfl (fun K hK => ?_)
  go_simp
  refine (len1 _ fr to sq ac fp tp fl wi ms sc A n c hn).mono ?_
  rintro x w2 ⟨rfl, q2⟩
  refine hK _ _ (q2.more (by simp)) ?_
  clear hK K
  try simp only [Act.put, List.setIfInBounds_toArray, List.set_cons_zero, List.set_cons_succ]
  have OBW := hid (OBW.out.only q2 (by simp)); have ORW := hid (ORW.out.only q2 (by simp)); have OCW := hid (OCW.out.only q2 (by simp)); have QW := hid (QW.out.trans q2); clear q2
  generalize hLen : sl n fl = len
  have HLen := hid hLen; clear hLen
  clear k0 k1 k2 k3 k4 k5 k6 k7 k8 k9 k10
  refine rgn.Sched.y (v := ?_) rfl rfl rfl ?_ ?_
  rotate_left 1
  · intro W' hW'
    go_simp
    try with_reducible rfl
  try simp only [Act.put, List.setIfInBounds_toArray, List.set_cons_zero, List.set_cons_succ]
  refine rgn.Sched.y (v := ?_) rfl rfl rfl ?_ ?_
  rotate_left 1
  · intro W' hW'
    go_simp
    try with_reducible rfl
  try simp only [Act.put, List.setIfInBounds_toArray, List.set_cons_zero, List.set_cons_succ]
  refine rgn.Sched.e rfl rfl (fun K hK => ?_)
  have c0 := OCW.out.cell 6; have f0 := OCW.out.frozen 6
  go_simp
  refine hK _ _ ((Only.refl _ _).setCell (p := ⟨(w.heap.size + 1 + 1), 6, none⟩) (Or.inl (by simp)) _) ?_
  clear hK K c0 f0
  refine rgn.Sched.world (fun w3 hw3 => ?_)
  try simp only [Act.put, List.setIfInBounds_toArray, List.set_cons_zero, List.set_cons_succ]
  have OBW := hid (OBW.out.eq_far hw3 (by simp; try omega)); have ORW := hid (ORW.out.eq_far hw3 (by simp; try omega)); have OCW := hid (OCW.out.eq_set hw3); have QW := hid (QW.out.eq_set hw3 (Or.inr (by simp; try omega))); clear hw3
  refine rgn.Sched.y (v := ?_) rfl rfl rfl ?_ ?_
  rotate_left 1
  · intro W' hW'
    go_simp
    try with_reducible rfl
  try simp only [Act.put, List.setIfInBounds_toArray, List.set_cons_zero, List.set_cons_succ]
  refine rgn.Sched.e rfl rfl (fun K hK => ?_)
  have c0 := OCW.out.cell 5; have f0 := OCW.out.frozen 5
  go_simp
  refine hK _ _ ((Only.refl _ _).setCell (p := ⟨(w.heap.size + 1 + 1), 5, none⟩) (Or.inl (by simp)) _) ?_
  clear hK K c0 f0
  refine rgn.Sched.world (fun w4 hw4 => ?_)
  try simp only [Act.put, List.setIfInBounds_toArray, List.set_cons_zero, List.set_cons_succ]
  have OBW := hid (OBW.out.eq_far hw4 (by simp; try omega)); have ORW := hid (ORW.out.eq_far hw4 (by simp; try omega)); have OCW := hid (OCW.out.eq_set hw4); have QW := hid (QW.out.eq_set hw4 (Or.inr (by simp; try omega))); clear hw4
  refine rgn.Sched.z (NoPanic.normal ?_)
  go_wp2_with (first
    | (refine wp_loadOb rfl 26 _ rfl _ rfl _ _ OCW.out Try.underlying26 rfl (by kernel_rfl) ?_; try simp only [Act.put, List.setIfInBounds_toArray, List.set_cons_zero, List.set_cons_succ])
    | (refine wp_storeOb rfl 26 _ _ rfl _ _ rfl rfl _ _ ORW.out rfl (by kernel_rfl) (by simp [Value.oneCell']) (fun W5 hW5 => ?_); try simp only [Act.put, List.setIfInBounds_toArray, List.set_cons_zero, List.set_cons_succ]; have OR5 := hid (ORW.out.eq_all hW5 rfl); have QB5 := hid (QW.out.eq_all hW5 (Or.inr (by simp; try omega))); clear hW5))
  have r0 := OR5.out.cell 0; have r1 := OR5.out.cell 1; have r2 := OR5.out.cell 2; have r3 := OR5.out.cell 3; have r4 := OR5.out.cell 4; have r5 := OR5.out.cell 5; have r6 := OR5.out.cell 6; have r7 := OR5.out.cell 7; have r8 := OR5.out.cell 8; have r9 := OR5.out.cell 9; have r10 := OR5.out.cell 10
  refine bodyPost_ret (v := .tuple #[.agg #[.int .u32 to, .int .i64 tp, .int .u32 fr, .int .i64 fp, .int .u32 0, .int .u32 (IntKind.u32.wrap (sq + IntKind.u32.wrap (len))), .int .i64 20, .int .i64 0, .int .i64 0, .int .i64 (-1), .slice none 0 0], .bool true]) (by simp [results, Try.results21, go_sem, *]) rfl ⟨by rw [HLen.out], QB5.out⟩
end Go.Proofs.Ytkpdgfimibmoeaa.seg
