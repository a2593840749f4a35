/-
  Chapter 14 (segment): a segment that is nobody's, the law, by a walk of its text. Conditions: none but those typed.
-/
import Derived.Test.YtkpdgfimibmoeaaSegJ
import Derived.Test.YtkpdgfimibmoeaaSegE
namespace Go.Proofs.Ytkpdgfimibmoeaa.seg
set_option linter.unusedVariables false
set_option linter.unusedSimpArgs false
open Go.ChangeShapes Go.WideShapes Go.ChangeAt Go.RowKit Go.IntWalk Go.Lib
set_option maxHeartbeats 20000000 in
theorem resets4 (w : World) (fr to sq ac : Int) (fp tp fl wi ms sc : Int) (A : Option Addr) (n c : Nat) (hn : n ≤ 70000) (hh : hs fl 4 = true) :
    Calls Try.prog 8 #[.agg #[.int .u32 fr, .int .i64 fp, .int .u32 to, .int .i64 tp, .int .u32 sq, .int .u32 ac, .int .i64 fl, .int .i64 wi, .int .i64 ms, .int .i64 sc, .slice A n c]] w fun x w' => x = .returned (.bool true) ∧ Only [] w w' := by
  have OB : Hid (Ob (w.alloc (.cells #[.int .u32 fr, .int .i64 fp, .int .u32 to, .int .i64 tp, .int .u32 sq, .int .u32 ac, .int .i64 fl, .int .i64 wi, .int .i64 ms, .int .i64 sc, .slice A n c] 26)) w.heap.size 26 #[.int .u32 fr, .int .i64 fp, .int .u32 to, .int .i64 tp, .int .u32 sq, .int .u32 ac, .int .i64 fl, .int .i64 wi, .int .i64 ms, .int .i64 sc, .slice A n c]) := hid (Ob.new _ _ _)
  have QB : Hid (Only [] w (w.alloc (.cells #[.int .u32 fr, .int .i64 fp, .int .u32 to, .int .i64 tp, .int .u32 sq, .int .u32 ac, .int .i64 fl, .int .i64 wi, .int .i64 ms, .int .i64 sc, .slice A n c] 26))) := hid ((Only.refl [] w).alloc _)
  have HH := hid hh; clear hh
  go_enter Try.func8, Try.ntmps8
  have hnn : ¬ 70000 < n := by omega
  have k0 := OB.out.cell 0; have k1 := OB.out.cell 1; have k2 := OB.out.cell 2; have k3 := OB.out.cell 3; have k4 := OB.out.cell 4; have k5 := OB.out.cell 5; have k6 := OB.out.cell 6; have k7 := OB.out.cell 7; have k8 := OB.out.cell 8; have k9 := OB.out.cell 9; have k10 := OB.out.cell 10
  go_wp2_with fail
  refine (rst4 _ fr to sq ac fp tp fl wi ms sc A n c (by omega) HH.out).mono ?_
  rintro x w2 ⟨rfl, o2⟩
  have OB := hid (OB.out.only o2 (by simp)); have QB := hid (QB.out.trans o2); clear o2
  clear k0 k1 k2 k3 k4 k5 k6 k7 k8 k9 k10
  have O3 : Hid (Ob (w2.alloc (.cells #[.int .u32 0, .int .i64 0, .int .u32 0, .int .i64 0, .int .u32 0, .int .u32 0, .int .i64 0, .int .i64 0, .int .i64 0, .int .i64 0, .slice none 0 0] 26)) w2.heap.size 26 #[.int .u32 0, .int .i64 0, .int .u32 0, .int .i64 0, .int .u32 0, .int .u32 0, .int .i64 0, .int .i64 0, .int .i64 0, .int .i64 0, .slice none 0 0]) := hid (Ob.new _ _ _)
  have hlt := OB.out.lt
  have OB := hid (OB.out.alloc (.cells #[.int .u32 0, .int .i64 0, .int .u32 0, .int .i64 0, .int .u32 0, .int .u32 0, .int .i64 0, .int .i64 0, .int .i64 0, .int .i64 0, .slice none 0 0] 26)); have QB := hid (QB.out.alloc (.cells #[.int .u32 0, .int .i64 0, .int .u32 0, .int .i64 0, .int .u32 0, .int .u32 0, .int .i64 0, .int .i64 0, .int .i64 0, .int .i64 0, .slice none 0 0] 26))
  have k0 := OB.out.cell 0; have k1 := OB.out.cell 1; have k2 := OB.out.cell 2; have k3 := OB.out.cell 3; have k4 := OB.out.cell 4; have k5 := OB.out.cell 5; have k6 := OB.out.cell 6; have k7 := OB.out.cell 7; have k8 := OB.out.cell 8; have k9 := OB.out.cell 9; have k10 := OB.out.cell 10
  go_wp2_with fail
  refine (ref4 _ fr to sq ac fp tp fl wi ms sc A n c (by omega) HH.out).mono ?_
  rintro x w3 ⟨rfl, o3⟩
  skip
  have OB := hid (OB.out.only o3 (by simp)); have QB := hid (QB.out.trans o3); have O3 := hid (O3.out.only o3 (by simp)); clear o3
  have hlt3 := O3.out.lt
  have O4 : Hid (Ob (w3.alloc (.cells #[.int .u32 0, .int .i64 0, .int .u32 0, .int .i64 0, .int .u32 0, .int .u32 0, .int .i64 0, .int .i64 0, .int .i64 0, .int .i64 0, .slice none 0 0] 26)) w3.heap.size 26 #[.int .u32 0, .int .i64 0, .int .u32 0, .int .i64 0, .int .u32 0, .int .u32 0, .int .i64 0, .int .i64 0, .int .i64 0, .int .i64 0, .slice none 0 0]) := hid (Ob.new _ _ _)
  have OB := hid (OB.out.alloc (.cells #[.int .u32 0, .int .i64 0, .int .u32 0, .int .i64 0, .int .u32 0, .int .u32 0, .int .i64 0, .int .i64 0, .int .i64 0, .int .i64 0, .slice none 0 0] 26)); have QB := hid (QB.out.alloc (.cells #[.int .u32 0, .int .i64 0, .int .u32 0, .int .i64 0, .int .u32 0, .int .u32 0, .int .i64 0, .int .i64 0, .int .i64 0, .int .i64 0, .slice none 0 0] 26)); have O3 := hid (O3.out.alloc (.cells #[.int .u32 0, .int .i64 0, .int .u32 0, .int .i64 0, .int .u32 0, .int .u32 0, .int .i64 0, .int .i64 0, .int .i64 0, .int .i64 0, .slice none 0 0] 26))
  clear k0 k1 k2 k3 k4 k5 k6 k7 k8 k9 k10
  go_wp2_with fail
  refine wp_region_noPanic ?_
  refine rgn.region (R := Only []) (by kernel_rfl) (Only.refl []) (fun _ _ _ => Only.trans) (fun _ _ _ _ _ h => h) [(0, true), (1, true), (2, true), (3, true), (4, true), (5, true), (6, false), (7, true), (8, true), (9, true), (10, true), (12, true), (11, false), (13, false), (14, true), (15, true)] (by kernel_rfl) (fun W hWd => ?_)
  have HWd := hid hWd; clear hWd
  have OBW := hid (Ob.eq_drew OB.out HWd.out); have O3W := hid (Ob.eq_drew O3.out HWd.out); have O4W := hid (Ob.eq_drew O4.out HWd.out); have QW : Hid (Only [] w W) := hid (Only.eq_drew QB.out HWd.out)
  clear HWd
  refine rgn.Sched.y (v := ?_) rfl rfl rfl ?_ ?_
  rotate_left 1
  · intro W' hW'
    go_simp
    try with_reducible rfl
  try simp only [Act.put, List.setIfInBounds_toArray, List.set_cons_zero, List.set_cons_succ]
  refine rgn.Sched.y (v := ?_) rfl rfl rfl ?_ ?_
  rotate_left 1
  · intro W' hW'
    go_simp
    try with_reducible rfl
  try simp only [Act.put, List.setIfInBounds_toArray, List.set_cons_zero, List.set_cons_succ]
  refine rgn.Sched.y (v := ?_) rfl rfl rfl ?_ ?_
  rotate_left 1
  · intro W' hW'
    go_simp
    try with_reducible rfl
  try simp only [Act.put, List.setIfInBounds_toArray, List.set_cons_zero, List.set_cons_succ]
  refine rgn.Sched.y (v := ?_) rfl rfl rfl ?_ ?_
  rotate_left 1
  · intro W' hW'
    go_simp
    try with_reducible rfl
  try simp only [Act.put, List.setIfInBounds_toArray, List.set_cons_zero, List.set_cons_succ]
  refine rgn.Sched.y rfl rfl rfl (fun W' hW' => exec_load 26 _ rfl _ rfl _ _ (O3W.out.only hW' (by simp)) Try.underlying26 rfl (by kernel_rfl)) ?_
  try simp only [Act.put, List.setIfInBounds_toArray, List.set_cons_zero, List.set_cons_succ]
  refine rgn.Sched.y rfl rfl rfl (fun W' hW' => exec_load 26 _ rfl _ rfl _ _ (O4W.out.only hW' (by simp)) Try.underlying26 rfl (by kernel_rfl)) ?_
  try simp only [Act.put, List.setIfInBounds_toArray, List.set_cons_zero, List.set_cons_succ]
  refine rgn.Sched.e rfl rfl (fun K hK => ?_)
  go_simp
  refine (segs _ 0 0 0 0 0 0 0 0 0 0 none none 0 0 0 [] (Rd.nil _ _ _) (Rd.nil _ _ _) (by omega)).mono ?_
  rintro x w4 ⟨rfl, o4⟩
  refine hK _ _ o4 ?_
  clear hK K
  try simp only [Act.put, List.setIfInBounds_toArray, List.set_cons_zero, List.set_cons_succ]
  have OBW := hid (OBW.out.only o4 (by simp)); have O3W := hid (O3W.out.only o4 (by simp)); have O4W := hid (O4W.out.only o4 (by simp)); have QW := hid (QW.out.trans o4); clear o4
  refine rgn.Sched.y (v := ?_) rfl rfl rfl ?_ ?_
  rotate_left 1
  · intro W' hW'
    go_simp
    try with_reducible rfl
  try simp only [Act.put, List.setIfInBounds_toArray, List.set_cons_zero, List.set_cons_succ]
  refine rgn.Sched.y (v := ?_) rfl rfl rfl ?_ ?_
  rotate_left 1
  · intro W' hW'
    go_simp
    try with_reducible rfl
  try simp only [Act.put, List.setIfInBounds_toArray, List.set_cons_zero, List.set_cons_succ]
  refine rgn.Sched.y (v := ?_) rfl rfl rfl ?_ ?_
  rotate_left 1
  · intro W' hW'
    go_simp
    try with_reducible rfl
  try simp only [Act.put, List.setIfInBounds_toArray, List.set_cons_zero, List.set_cons_succ]
  refine rgn.Sched.y rfl rfl rfl (fun W' hW' => exec_load 26 _ rfl _ rfl _ _ (OBW.out.only hW' (by simp)) Try.underlying26 rfl (by kernel_rfl)) ?_
  try simp only [Act.put, List.setIfInBounds_toArray, List.set_cons_zero, List.set_cons_succ]
  refine rgn.Sched.y rfl rfl rfl (fun W' hW' => exec_load 26 _ rfl _ rfl _ _ (OBW.out.only hW' (by simp)) Try.underlying26 rfl (by kernel_rfl)) ?_
  try simp only [Act.put, List.setIfInBounds_toArray, List.set_cons_zero, List.set_cons_succ]
  refine rgn.Sched.e rfl rfl (fun K hK => ?_)
  go_simp
  refine (len1 _ fr to sq ac fp tp fl wi ms sc A n c (by omega)).mono ?_
  rintro x w5 ⟨rfl, o5⟩
  refine hK _ _ o5 ?_
  clear hK K
  try simp only [Act.put, List.setIfInBounds_toArray, List.set_cons_zero, List.set_cons_succ]
  have OBW := hid (OBW.out.only o5 (by simp)); have O3W := hid (O3W.out.only o5 (by simp)); have O4W := hid (O4W.out.only o5 (by simp)); have QW := hid (QW.out.trans o5); clear o5
  refine rgn.Sched.e rfl rfl (fun K hK => ?_)
  go_simp
  refine (lenR _ fr to sq ac fp tp fl wi ms sc A n c (by omega)).mono ?_
  rintro x w6 ⟨rfl, o6⟩
  refine hK _ _ o6 ?_
  clear hK K
  generalize hLen : sl n fl = len
  clear hLen
  try simp only [Act.put, List.setIfInBounds_toArray, List.set_cons_zero, List.set_cons_succ]
  have OBW := hid (OBW.out.only o6 (by simp)); have O3W := hid (O3W.out.only o6 (by simp)); have O4W := hid (O4W.out.only o6 (by simp)); have QW := hid (QW.out.trans o6); clear o6
  refine rgn.Sched.y (v := ?_) rfl rfl rfl ?_ ?_
  rotate_left 1
  · intro W' hW'
    go_simp
    try with_reducible rfl
  try simp only [Act.put, List.setIfInBounds_toArray, List.set_cons_zero, List.set_cons_succ]
  refine rgn.Sched.y (v := ?_) rfl rfl rfl ?_ ?_
  rotate_left 1
  · intro W' hW'
    go_simp
    try with_reducible rfl
  try simp only [Act.put, List.setIfInBounds_toArray, List.set_cons_zero, List.set_cons_succ]
  refine rgn.Sched.z (NoPanic.normal ?_)
  have h4 := HH.out
  have h4' : (bits .and .i64 fl 4 != 0) = true := h4
  clear h4
  have k0 := OBW.out.cell 0; have k1 := OBW.out.cell 1; have k2 := OBW.out.cell 2; have k3 := OBW.out.cell 3; have k4 := OBW.out.cell 4; have k5 := OBW.out.cell 5; have k6 := OBW.out.cell 6; have k7 := OBW.out.cell 7; have k8 := OBW.out.cell 8; have k9 := OBW.out.cell 9; have k10 := OBW.out.cell 10
  go_wp2_with fail
  refine (known _).mono ?_
  rintro x w7 ⟨rfl, o7⟩
  have QW := hid (QW.out.trans o7); clear o7
  go_wp2
  go_ret
  exact ⟨rfl, QW.out⟩
set_option maxHeartbeats 20000000 in
theorem resetsA (w : World) (fr to sq ac : Int) (fp tp fl wi ms sc : Int) (A : Option Addr) (n c : Nat) (hn : n ≤ 70000) (hh : hs fl 4 = false) (hh2 : hs fl 16 = true) :
    Calls Try.prog 8 #[.agg #[.int .u32 fr, .int .i64 fp, .int .u32 to, .int .i64 tp, .int .u32 sq, .int .u32 ac, .int .i64 fl, .int .i64 wi, .int .i64 ms, .int .i64 sc, .slice A n c]] w fun x w' => x = .returned (.bool true) ∧ Only [] w w' := by
  have OB : Hid (Ob (w.alloc (.cells #[.int .u32 fr, .int .i64 fp, .int .u32 to, .int .i64 tp, .int .u32 sq, .int .u32 ac, .int .i64 fl, .int .i64 wi, .int .i64 ms, .int .i64 sc, .slice A n c] 26)) w.heap.size 26 #[.int .u32 fr, .int .i64 fp, .int .u32 to, .int .i64 tp, .int .u32 sq, .int .u32 ac, .int .i64 fl, .int .i64 wi, .int .i64 ms, .int .i64 sc, .slice A n c]) := hid (Ob.new _ _ _)
  have QB : Hid (Only [] w (w.alloc (.cells #[.int .u32 fr, .int .i64 fp, .int .u32 to, .int .i64 tp, .int .u32 sq, .int .u32 ac, .int .i64 fl, .int .i64 wi, .int .i64 ms, .int .i64 sc, .slice A n c] 26))) := hid ((Only.refl [] w).alloc _)
  have HH := hid hh; clear hh
  have HH2 := hid hh2; clear hh2
  go_enter Try.func8, Try.ntmps8
  have hnn : ¬ 70000 < n := by omega
  have k0 := OB.out.cell 0; have k1 := OB.out.cell 1; have k2 := OB.out.cell 2; have k3 := OB.out.cell 3; have k4 := OB.out.cell 4; have k5 := OB.out.cell 5; have k6 := OB.out.cell 6; have k7 := OB.out.cell 7; have k8 := OB.out.cell 8; have k9 := OB.out.cell 9; have k10 := OB.out.cell 10
  go_wp2_with fail
  refine (rstA _ fr to sq ac fp tp fl wi ms sc A n c (by omega) HH.out HH2.out).mono ?_
  rintro x w2 ⟨rfl, o2⟩
  have OB := hid (OB.out.only o2 (by simp)); have QB := hid (QB.out.trans o2); clear o2
  clear k0 k1 k2 k3 k4 k5 k6 k7 k8 k9 k10
  have O3 : Hid (Ob (w2.alloc (.cells #[.int .u32 to, .int .i64 tp, .int .u32 fr, .int .i64 fp, .int .u32 ac, .int .u32 0, .int .i64 4, .int .i64 0, .int .i64 0, .int .i64 (-1), .slice none 0 0] 26)) w2.heap.size 26 #[.int .u32 to, .int .i64 tp, .int .u32 fr, .int .i64 fp, .int .u32 ac, .int .u32 0, .int .i64 4, .int .i64 0, .int .i64 0, .int .i64 (-1), .slice none 0 0]) := hid (Ob.new _ _ _)
  have hlt := OB.out.lt
  have OB := hid (OB.out.alloc (.cells #[.int .u32 to, .int .i64 tp, .int .u32 fr, .int .i64 fp, .int .u32 ac, .int .u32 0, .int .i64 4, .int .i64 0, .int .i64 0, .int .i64 (-1), .slice none 0 0] 26)); have QB := hid (QB.out.alloc (.cells #[.int .u32 to, .int .i64 tp, .int .u32 fr, .int .i64 fp, .int .u32 ac, .int .u32 0, .int .i64 4, .int .i64 0, .int .i64 0, .int .i64 (-1), .slice none 0 0] 26))
  have k0 := OB.out.cell 0; have k1 := OB.out.cell 1; have k2 := OB.out.cell 2; have k3 := OB.out.cell 3; have k4 := OB.out.cell 4; have k5 := OB.out.cell 5; have k6 := OB.out.cell 6; have k7 := OB.out.cell 7; have k8 := OB.out.cell 8; have k9 := OB.out.cell 9; have k10 := OB.out.cell 10
  go_wp2_with fail
  refine (refA _ fr to sq ac fp tp fl wi ms sc A n c (by omega) HH.out HH2.out).mono ?_
  rintro x w3 ⟨rfl, o3⟩
  skip
  have OB := hid (OB.out.only o3 (by simp)); have QB := hid (QB.out.trans o3); have O3 := hid (O3.out.only o3 (by simp)); clear o3
  have hlt3 := O3.out.lt
  have O4 : Hid (Ob (w3.alloc (.cells #[.int .u32 to, .int .i64 tp, .int .u32 fr, .int .i64 fp, .int .u32 ac, .int .u32 0, .int .i64 4, .int .i64 0, .int .i64 0, .int .i64 (-1), .slice none 0 0] 26)) w3.heap.size 26 #[.int .u32 to, .int .i64 tp, .int .u32 fr, .int .i64 fp, .int .u32 ac, .int .u32 0, .int .i64 4, .int .i64 0, .int .i64 0, .int .i64 (-1), .slice none 0 0]) := hid (Ob.new _ _ _)
  have OB := hid (OB.out.alloc (.cells #[.int .u32 to, .int .i64 tp, .int .u32 fr, .int .i64 fp, .int .u32 ac, .int .u32 0, .int .i64 4, .int .i64 0, .int .i64 0, .int .i64 (-1), .slice none 0 0] 26)); have QB := hid (QB.out.alloc (.cells #[.int .u32 to, .int .i64 tp, .int .u32 fr, .int .i64 fp, .int .u32 ac, .int .u32 0, .int .i64 4, .int .i64 0, .int .i64 0, .int .i64 (-1), .slice none 0 0] 26)); have O3 := hid (O3.out.alloc (.cells #[.int .u32 to, .int .i64 tp, .int .u32 fr, .int .i64 fp, .int .u32 ac, .int .u32 0, .int .i64 4, .int .i64 0, .int .i64 0, .int .i64 (-1), .slice none 0 0] 26))
  clear k0 k1 k2 k3 k4 k5 k6 k7 k8 k9 k10
  go_wp2_with fail
  refine wp_region_noPanic ?_
  refine rgn.region (R := Only []) (by kernel_rfl) (Only.refl []) (fun _ _ _ => Only.trans) (fun _ _ _ _ _ h => h) [(0, true), (1, true), (2, true), (3, true), (4, true), (5, true), (6, false), (7, true), (8, true), (9, true), (10, true), (12, true), (11, false), (13, false), (14, true), (15, true)] (by kernel_rfl) (fun W hWd => ?_)
  have HWd := hid hWd; clear hWd
  have OBW := hid (Ob.eq_drew OB.out HWd.out); have O3W := hid (Ob.eq_drew O3.out HWd.out); have O4W := hid (Ob.eq_drew O4.out HWd.out); have QW : Hid (Only [] w W) := hid (Only.eq_drew QB.out HWd.out)
  clear HWd
  refine rgn.Sched.y (v := ?_) rfl rfl rfl ?_ ?_
  rotate_left 1
  · intro W' hW'
    go_simp
    try with_reducible rfl
  try simp only [Act.put, List.setIfInBounds_toArray, List.set_cons_zero, List.set_cons_succ]
  refine rgn.Sched.y (v := ?_) rfl rfl rfl ?_ ?_
  rotate_left 1
  · intro W' hW'
    go_simp
    try with_reducible rfl
  try simp only [Act.put, List.setIfInBounds_toArray, List.set_cons_zero, List.set_cons_succ]
  refine rgn.Sched.y (v := ?_) rfl rfl rfl ?_ ?_
  rotate_left 1
  · intro W' hW'
    go_simp
    try with_reducible rfl
  try simp only [Act.put, List.setIfInBounds_toArray, List.set_cons_zero, List.set_cons_succ]
  refine rgn.Sched.y (v := ?_) rfl rfl rfl ?_ ?_
  rotate_left 1
  · intro W' hW'
    go_simp
    try with_reducible rfl
  try simp only [Act.put, List.setIfInBounds_toArray, List.set_cons_zero, List.set_cons_succ]
  refine rgn.Sched.y rfl rfl rfl (fun W' hW' => exec_load 26 _ rfl _ rfl _ _ (O3W.out.only hW' (by simp)) Try.underlying26 rfl (by kernel_rfl)) ?_
  try simp only [Act.put, List.setIfInBounds_toArray, List.set_cons_zero, List.set_cons_succ]
  refine rgn.Sched.y rfl rfl rfl (fun W' hW' => exec_load 26 _ rfl _ rfl _ _ (O4W.out.only hW' (by simp)) Try.underlying26 rfl (by kernel_rfl)) ?_
  try simp only [Act.put, List.setIfInBounds_toArray, List.set_cons_zero, List.set_cons_succ]
  refine rgn.Sched.e rfl rfl (fun K hK => ?_)
  go_simp
  refine (segs _ to fr ac 0 tp fp 4 0 0 (-1) none none 0 0 0 [] (Rd.nil _ _ _) (Rd.nil _ _ _) (by omega)).mono ?_
  rintro x w4 ⟨rfl, o4⟩
  refine hK _ _ o4 ?_
  clear hK K
  try simp only [Act.put, List.setIfInBounds_toArray, List.set_cons_zero, List.set_cons_succ]
  have OBW := hid (OBW.out.only o4 (by simp)); have O3W := hid (O3W.out.only o4 (by simp)); have O4W := hid (O4W.out.only o4 (by simp)); have QW := hid (QW.out.trans o4); clear o4
  refine rgn.Sched.y (v := ?_) rfl rfl rfl ?_ ?_
  rotate_left 1
  · intro W' hW'
    go_simp
    try with_reducible rfl
  try simp only [Act.put, List.setIfInBounds_toArray, List.set_cons_zero, List.set_cons_succ]
  refine rgn.Sched.y (v := ?_) rfl rfl rfl ?_ ?_
  rotate_left 1
  · intro W' hW'
    go_simp
    try with_reducible rfl
  try simp only [Act.put, List.setIfInBounds_toArray, List.set_cons_zero, List.set_cons_succ]
  refine rgn.Sched.y (v := ?_) rfl rfl rfl ?_ ?_
  rotate_left 1
  · intro W' hW'
    go_simp
    try with_reducible rfl
  try simp only [Act.put, List.setIfInBounds_toArray, List.set_cons_zero, List.set_cons_succ]
  refine rgn.Sched.y rfl rfl rfl (fun W' hW' => exec_load 26 _ rfl _ rfl _ _ (OBW.out.only hW' (by simp)) Try.underlying26 rfl (by kernel_rfl)) ?_
  try simp only [Act.put, List.setIfInBounds_toArray, List.set_cons_zero, List.set_cons_succ]
  refine rgn.Sched.y rfl rfl rfl (fun W' hW' => exec_load 26 _ rfl _ rfl _ _ (OBW.out.only hW' (by simp)) Try.underlying26 rfl (by kernel_rfl)) ?_
  try simp only [Act.put, List.setIfInBounds_toArray, List.set_cons_zero, List.set_cons_succ]
  refine rgn.Sched.e rfl rfl (fun K hK => ?_)
  go_simp
  refine (len1 _ fr to sq ac fp tp fl wi ms sc A n c (by omega)).mono ?_
  rintro x w5 ⟨rfl, o5⟩
  refine hK _ _ o5 ?_
  clear hK K
  try simp only [Act.put, List.setIfInBounds_toArray, List.set_cons_zero, List.set_cons_succ]
  have OBW := hid (OBW.out.only o5 (by simp)); have O3W := hid (O3W.out.only o5 (by simp)); have O4W := hid (O4W.out.only o5 (by simp)); have QW := hid (QW.out.trans o5); clear o5
  refine rgn.Sched.e rfl rfl (fun K hK => ?_)
  go_simp
  refine (lenR _ fr to sq ac fp tp fl wi ms sc A n c (by omega)).mono ?_
  rintro x w6 ⟨rfl, o6⟩
  refine hK _ _ o6 ?_
  clear hK K
  generalize hLen : sl n fl = len
  clear hLen
  try simp only [Act.put, List.setIfInBounds_toArray, List.set_cons_zero, List.set_cons_succ]
  have OBW := hid (OBW.out.only o6 (by simp)); have O3W := hid (O3W.out.only o6 (by simp)); have O4W := hid (O4W.out.only o6 (by simp)); have QW := hid (QW.out.trans o6); clear o6
  refine rgn.Sched.y (v := ?_) rfl rfl rfl ?_ ?_
  rotate_left 1
  · intro W' hW'
    go_simp
    try with_reducible rfl
  try simp only [Act.put, List.setIfInBounds_toArray, List.set_cons_zero, List.set_cons_succ]
  refine rgn.Sched.y (v := ?_) rfl rfl rfl ?_ ?_
  rotate_left 1
  · intro W' hW'
    go_simp
    try with_reducible rfl
  try simp only [Act.put, List.setIfInBounds_toArray, List.set_cons_zero, List.set_cons_succ]
  refine rgn.Sched.z (NoPanic.normal ?_)
  have r0 := O3W.out.cell 0; have r1 := O3W.out.cell 1; have r2 := O3W.out.cell 2; have r3 := O3W.out.cell 3; have r4 := O3W.out.cell 4; have r5 := O3W.out.cell 5; have r6 := O3W.out.cell 6; have r7 := O3W.out.cell 7; have r8 := O3W.out.cell 8; have r9 := O3W.out.cell 9; have r10 := O3W.out.cell 10
  go_wp2_with fail
  refine (rst4 _ to fr ac 0 tp fp 4 0 0 (-1) none 0 0 (by omega) (by decide)).mono ?_
  rintro x w7 ⟨rfl, o7⟩
  have OBW := hid (OBW.out.only o7 (by simp)); have O3W := hid (O3W.out.only o7 (by simp)); have QW := hid (QW.out.trans o7); clear o7
  clear r0 r1 r2 r3 r4 r5 r6 r7 r8 r9 r10
  have hl7 := OBW.out.lt
  have hl8 := O3W.out.lt
  have k0 := OBW.out.cell 0; have k1 := OBW.out.cell 1; have k2 := OBW.out.cell 2; have k3 := OBW.out.cell 3; have k4 := OBW.out.cell 4; have k5 := OBW.out.cell 5; have k6 := OBW.out.cell 6; have k7 := OBW.out.cell 7; have k8 := OBW.out.cell 8; have k9 := OBW.out.cell 9; have k10 := OBW.out.cell 10; have r0 := O3W.out.cell 0; have r1 := O3W.out.cell 1; have r2 := O3W.out.cell 2; have r3 := O3W.out.cell 3; have r4 := O3W.out.cell 4; have r5 := O3W.out.cell 5; have r6 := O3W.out.cell 6; have r7 := O3W.out.cell 7; have r8 := O3W.out.cell 8; have r9 := O3W.out.cell 9; have r10 := O3W.out.cell 10
  go_wp2_with fail
  refine (known _).mono ?_
  rintro x w8 ⟨rfl, o8⟩
  have QW := hid ((QW.out.alloc _).trans o8); clear o8
  go_wp2
  go_ret
  exact ⟨rfl, QW.out⟩
set_option maxHeartbeats 20000000 in
theorem resetsB (w : World) (fr to sq ac : Int) (fp tp fl wi ms sc : Int) (A : Option Addr) (n c : Nat) (hn : n ≤ 70000) (hh : hs fl 4 = false) (hh2 : hs fl 16 = false) :
    Calls Try.prog 8 #[.agg #[.int .u32 fr, .int .i64 fp, .int .u32 to, .int .i64 tp, .int .u32 sq, .int .u32 ac, .int .i64 fl, .int .i64 wi, .int .i64 ms, .int .i64 sc, .slice A n c]] w fun x w' => x = .returned (.bool true) ∧ Only [] w w' := by
  have OB : Hid (Ob (w.alloc (.cells #[.int .u32 fr, .int .i64 fp, .int .u32 to, .int .i64 tp, .int .u32 sq, .int .u32 ac, .int .i64 fl, .int .i64 wi, .int .i64 ms, .int .i64 sc, .slice A n c] 26)) w.heap.size 26 #[.int .u32 fr, .int .i64 fp, .int .u32 to, .int .i64 tp, .int .u32 sq, .int .u32 ac, .int .i64 fl, .int .i64 wi, .int .i64 ms, .int .i64 sc, .slice A n c]) := hid (Ob.new _ _ _)
  have QB : Hid (Only [] w (w.alloc (.cells #[.int .u32 fr, .int .i64 fp, .int .u32 to, .int .i64 tp, .int .u32 sq, .int .u32 ac, .int .i64 fl, .int .i64 wi, .int .i64 ms, .int .i64 sc, .slice A n c] 26))) := hid ((Only.refl [] w).alloc _)
  have HH := hid hh; clear hh
  have HH2 := hid hh2; clear hh2
  go_enter Try.func8, Try.ntmps8
  have hnn : ¬ 70000 < n := by omega
  have k0 := OB.out.cell 0; have k1 := OB.out.cell 1; have k2 := OB.out.cell 2; have k3 := OB.out.cell 3; have k4 := OB.out.cell 4; have k5 := OB.out.cell 5; have k6 := OB.out.cell 6; have k7 := OB.out.cell 7; have k8 := OB.out.cell 8; have k9 := OB.out.cell 9; have k10 := OB.out.cell 10
  go_wp2_with fail
  refine (rstB _ fr to sq ac fp tp fl wi ms sc A n c (by omega) HH.out HH2.out).mono ?_
  rintro x w2 ⟨rfl, o2⟩
  have OB := hid (OB.out.only o2 (by simp)); have QB := hid (QB.out.trans o2); clear o2
  generalize hq0 : IntKind.u32.wrap (sq + IntKind.u32.wrap (sl n fl)) = q0
  have HQ0 := hid hq0; clear hq0
  clear k0 k1 k2 k3 k4 k5 k6 k7 k8 k9 k10
  have O3 : Hid (Ob (w2.alloc (.cells #[.int .u32 to, .int .i64 tp, .int .u32 fr, .int .i64 fp, .int .u32 0, .int .u32 q0, .int .i64 20, .int .i64 0, .int .i64 0, .int .i64 (-1), .slice none 0 0] 26)) w2.heap.size 26 #[.int .u32 to, .int .i64 tp, .int .u32 fr, .int .i64 fp, .int .u32 0, .int .u32 q0, .int .i64 20, .int .i64 0, .int .i64 0, .int .i64 (-1), .slice none 0 0]) := hid (Ob.new _ _ _)
  have hlt := OB.out.lt
  have OB := hid (OB.out.alloc (.cells #[.int .u32 to, .int .i64 tp, .int .u32 fr, .int .i64 fp, .int .u32 0, .int .u32 q0, .int .i64 20, .int .i64 0, .int .i64 0, .int .i64 (-1), .slice none 0 0] 26)); have QB := hid (QB.out.alloc (.cells #[.int .u32 to, .int .i64 tp, .int .u32 fr, .int .i64 fp, .int .u32 0, .int .u32 q0, .int .i64 20, .int .i64 0, .int .i64 0, .int .i64 (-1), .slice none 0 0] 26))
  have k0 := OB.out.cell 0; have k1 := OB.out.cell 1; have k2 := OB.out.cell 2; have k3 := OB.out.cell 3; have k4 := OB.out.cell 4; have k5 := OB.out.cell 5; have k6 := OB.out.cell 6; have k7 := OB.out.cell 7; have k8 := OB.out.cell 8; have k9 := OB.out.cell 9; have k10 := OB.out.cell 10
  go_wp2_with fail
  refine (refB _ fr to sq ac fp tp fl wi ms sc A n c (by omega) HH.out HH2.out).mono ?_
  rintro x w3 ⟨rfl, o3⟩
  rw [HQ0.out]
  have OB := hid (OB.out.only o3 (by simp)); have QB := hid (QB.out.trans o3); have O3 := hid (O3.out.only o3 (by simp)); clear o3
  have hlt3 := O3.out.lt
  have O4 : Hid (Ob (w3.alloc (.cells #[.int .u32 to, .int .i64 tp, .int .u32 fr, .int .i64 fp, .int .u32 0, .int .u32 q0, .int .i64 20, .int .i64 0, .int .i64 0, .int .i64 (-1), .slice none 0 0] 26)) w3.heap.size 26 #[.int .u32 to, .int .i64 tp, .int .u32 fr, .int .i64 fp, .int .u32 0, .int .u32 q0, .int .i64 20, .int .i64 0, .int .i64 0, .int .i64 (-1), .slice none 0 0]) := hid (Ob.new _ _ _)
  have OB := hid (OB.out.alloc (.cells #[.int .u32 to, .int .i64 tp, .int .u32 fr, .int .i64 fp, .int .u32 0, .int .u32 q0, .int .i64 20, .int .i64 0, .int .i64 0, .int .i64 (-1), .slice none 0 0] 26)); have QB := hid (QB.out.alloc (.cells #[.int .u32 to, .int .i64 tp, .int .u32 fr, .int .i64 fp, .int .u32 0, .int .u32 q0, .int .i64 20, .int .i64 0, .int .i64 0, .int .i64 (-1), .slice none 0 0] 26)); have O3 := hid (O3.out.alloc (.cells #[.int .u32 to, .int .i64 tp, .int .u32 fr, .int .i64 fp, .int .u32 0, .int .u32 q0, .int .i64 20, .int .i64 0, .int .i64 0, .int .i64 (-1), .slice none 0 0] 26))
  clear k0 k1 k2 k3 k4 k5 k6 k7 k8 k9 k10
  go_wp2_with fail
  refine wp_region_noPanic ?_
  refine rgn.region (R := Only []) (by kernel_rfl) (Only.refl []) (fun _ _ _ => Only.trans) (fun _ _ _ _ _ h => h) [(0, true), (1, true), (2, true), (3, true), (4, true), (5, true), (6, false), (7, true), (8, true), (9, true), (10, true), (12, true), (11, false), (13, false), (14, true), (15, true)] (by kernel_rfl) (fun W hWd => ?_)
  have HWd := hid hWd; clear hWd
  have OBW := hid (Ob.eq_drew OB.out HWd.out); have O3W := hid (Ob.eq_drew O3.out HWd.out); have O4W := hid (Ob.eq_drew O4.out HWd.out); have QW : Hid (Only [] w W) := hid (Only.eq_drew QB.out HWd.out)
  clear HWd
  refine rgn.Sched.y (v := ?_) rfl rfl rfl ?_ ?_
  rotate_left 1
  · intro W' hW'
    go_simp
    try with_reducible rfl
  try simp only [Act.put, List.setIfInBounds_toArray, List.set_cons_zero, List.set_cons_succ]
  refine rgn.Sched.y (v := ?_) rfl rfl rfl ?_ ?_
  rotate_left 1
  · intro W' hW'
    go_simp
    try with_reducible rfl
  try simp only [Act.put, List.setIfInBounds_toArray, List.set_cons_zero, List.set_cons_succ]
  refine rgn.Sched.y (v := ?_) rfl rfl rfl ?_ ?_
  rotate_left 1
  · intro W' hW'
    go_simp
    try with_reducible rfl
  try simp only [Act.put, List.setIfInBounds_toArray, List.set_cons_zero, List.set_cons_succ]
  refine rgn.Sched.y (v := ?_) rfl rfl rfl ?_ ?_
  rotate_left 1
  · intro W' hW'
    go_simp
    try with_reducible rfl
  try simp only [Act.put, List.setIfInBounds_toArray, List.set_cons_zero, List.set_cons_succ]
  refine rgn.Sched.y rfl rfl rfl (fun W' hW' => exec_load 26 _ rfl _ rfl _ _ (O3W.out.only hW' (by simp)) Try.underlying26 rfl (by kernel_rfl)) ?_
  try simp only [Act.put, List.setIfInBounds_toArray, List.set_cons_zero, List.set_cons_succ]
  refine rgn.Sched.y rfl rfl rfl (fun W' hW' => exec_load 26 _ rfl _ rfl _ _ (O4W.out.only hW' (by simp)) Try.underlying26 rfl (by kernel_rfl)) ?_
  try simp only [Act.put, List.setIfInBounds_toArray, List.set_cons_zero, List.set_cons_succ]
  refine rgn.Sched.e rfl rfl (fun K hK => ?_)
  go_simp
  refine (segs _ to fr 0 q0 tp fp 20 0 0 (-1) none none 0 0 0 [] (Rd.nil _ _ _) (Rd.nil _ _ _) (by omega)).mono ?_
  rintro x w4 ⟨rfl, o4⟩
  refine hK _ _ o4 ?_
  clear hK K
  try simp only [Act.put, List.setIfInBounds_toArray, List.set_cons_zero, List.set_cons_succ]
  have OBW := hid (OBW.out.only o4 (by simp)); have O3W := hid (O3W.out.only o4 (by simp)); have O4W := hid (O4W.out.only o4 (by simp)); have QW := hid (QW.out.trans o4); clear o4
  refine rgn.Sched.y (v := ?_) rfl rfl rfl ?_ ?_
  rotate_left 1
  · intro W' hW'
    go_simp
    try with_reducible rfl
  try simp only [Act.put, List.setIfInBounds_toArray, List.set_cons_zero, List.set_cons_succ]
  refine rgn.Sched.y (v := ?_) rfl rfl rfl ?_ ?_
  rotate_left 1
  · intro W' hW'
    go_simp
    try with_reducible rfl
  try simp only [Act.put, List.setIfInBounds_toArray, List.set_cons_zero, List.set_cons_succ]
  refine rgn.Sched.y (v := ?_) rfl rfl rfl ?_ ?_
  rotate_left 1
  · intro W' hW'
    go_simp
    try with_reducible rfl
  try simp only [Act.put, List.setIfInBounds_toArray, List.set_cons_zero, List.set_cons_succ]
  refine rgn.Sched.y rfl rfl rfl (fun W' hW' => exec_load 26 _ rfl _ rfl _ _ (OBW.out.only hW' (by simp)) Try.underlying26 rfl (by kernel_rfl)) ?_
  try simp only [Act.put, List.setIfInBounds_toArray, List.set_cons_zero, List.set_cons_succ]
  refine rgn.Sched.y rfl rfl rfl (fun W' hW' => exec_load 26 _ rfl _ rfl _ _ (OBW.out.only hW' (by simp)) Try.underlying26 rfl (by kernel_rfl)) ?_
  try simp only [Act.put, List.setIfInBounds_toArray, List.set_cons_zero, List.set_cons_succ]
  refine rgn.Sched.e rfl rfl (fun K hK => ?_)
  go_simp
  refine (len1 _ fr to sq ac fp tp fl wi ms sc A n c (by omega)).mono ?_
  rintro x w5 ⟨rfl, o5⟩
  refine hK _ _ o5 ?_
  clear hK K
  try simp only [Act.put, List.setIfInBounds_toArray, List.set_cons_zero, List.set_cons_succ]
  have OBW := hid (OBW.out.only o5 (by simp)); have O3W := hid (O3W.out.only o5 (by simp)); have O4W := hid (O4W.out.only o5 (by simp)); have QW := hid (QW.out.trans o5); clear o5
  refine rgn.Sched.e rfl rfl (fun K hK => ?_)
  go_simp
  refine (lenR _ fr to sq ac fp tp fl wi ms sc A n c (by omega)).mono ?_
  rintro x w6 ⟨rfl, o6⟩
  refine hK _ _ o6 ?_
  clear hK K
  generalize hLen : sl n fl = len
  clear hLen
  try simp only [Act.put, List.setIfInBounds_toArray, List.set_cons_zero, List.set_cons_succ]
  have OBW := hid (OBW.out.only o6 (by simp)); have O3W := hid (O3W.out.only o6 (by simp)); have O4W := hid (O4W.out.only o6 (by simp)); have QW := hid (QW.out.trans o6); clear o6
  refine rgn.Sched.y (v := ?_) rfl rfl rfl ?_ ?_
  rotate_left 1
  · intro W' hW'
    go_simp
    try with_reducible rfl
  try simp only [Act.put, List.setIfInBounds_toArray, List.set_cons_zero, List.set_cons_succ]
  refine rgn.Sched.y (v := ?_) rfl rfl rfl ?_ ?_
  rotate_left 1
  · intro W' hW'
    go_simp
    try with_reducible rfl
  try simp only [Act.put, List.setIfInBounds_toArray, List.set_cons_zero, List.set_cons_succ]
  refine rgn.Sched.z (NoPanic.normal ?_)
  have r0 := O3W.out.cell 0; have r1 := O3W.out.cell 1; have r2 := O3W.out.cell 2; have r3 := O3W.out.cell 3; have r4 := O3W.out.cell 4; have r5 := O3W.out.cell 5; have r6 := O3W.out.cell 6; have r7 := O3W.out.cell 7; have r8 := O3W.out.cell 8; have r9 := O3W.out.cell 9; have r10 := O3W.out.cell 10
  go_wp2_with fail
  refine (rst4 _ to fr 0 q0 tp fp 20 0 0 (-1) none 0 0 (by omega) (by decide)).mono ?_
  rintro x w7 ⟨rfl, o7⟩
  have OBW := hid (OBW.out.only o7 (by simp)); have O3W := hid (O3W.out.only o7 (by simp)); have QW := hid (QW.out.trans o7); clear o7
  clear r0 r1 r2 r3 r4 r5 r6 r7 r8 r9 r10
  have hl7 := OBW.out.lt
  have hl8 := O3W.out.lt
  have k0 := OBW.out.cell 0; have k1 := OBW.out.cell 1; have k2 := OBW.out.cell 2; have k3 := OBW.out.cell 3; have k4 := OBW.out.cell 4; have k5 := OBW.out.cell 5; have k6 := OBW.out.cell 6; have k7 := OBW.out.cell 7; have k8 := OBW.out.cell 8; have k9 := OBW.out.cell 9; have k10 := OBW.out.cell 10; have r0 := O3W.out.cell 0; have r1 := O3W.out.cell 1; have r2 := O3W.out.cell 2; have r3 := O3W.out.cell 3; have r4 := O3W.out.cell 4; have r5 := O3W.out.cell 5; have r6 := O3W.out.cell 6; have r7 := O3W.out.cell 7; have r8 := O3W.out.cell 8; have r9 := O3W.out.cell 9; have r10 := O3W.out.cell 10
  go_wp2_with fail
  refine (known _).mono ?_
  rintro x w8 ⟨rfl, o8⟩
  have QW := hid ((QW.out.alloc _).trans o8); clear o8
  go_wp2
  go_ret
  exact ⟨rfl, QW.out⟩
set_option maxHeartbeats 4000000 in
theorem resetsOut (w : World) (fr to sq ac : Int) (fp tp fl wi ms sc : Int) (A : Option Addr) (n c : Nat) (hn : ¬ n ≤ 70000) :
    Calls Try.prog 8 #[.agg #[.int .u32 fr, .int .i64 fp, .int .u32 to, .int .i64 tp, .int .u32 sq, .int .u32 ac, .int .i64 fl, .int .i64 wi, .int .i64 ms, .int .i64 sc, .slice A n c]] w fun x w' => x = .returned (.bool true) ∧ Only [] w w' := by
  have h : 70000 < n := by omega
  go_enter Try.func8, Try.ntmps8
  go_wp2
  go_ret
  exact ⟨rfl, (Only.refl [] w).alloc _⟩
set_option maxHeartbeats 4000000 in
theorem resets (w : World) (fr to sq ac : Int) (fp tp fl wi ms sc : Int) (A : Option Addr) (n c : Nat)  :
    Calls Try.prog 8 #[.agg #[.int .u32 fr, .int .i64 fp, .int .u32 to, .int .i64 tp, .int .u32 sq, .int .u32 ac, .int .i64 fl, .int .i64 wi, .int .i64 ms, .int .i64 sc, .slice A n c]] w fun x w' => x = .returned (.bool true) ∧ Only [] w w' := by
  by_cases hn : n ≤ 70000
  · cases h4 : hs fl 4
    · cases h16 : hs fl 16
      · exact resetsB w fr to sq ac fp tp fl wi ms sc A n c hn h4 h16
      · exact resetsA w fr to sq ac fp tp fl wi ms sc A n c hn h4 h16
    · exact resets4 w fr to sq ac fp tp fl wi ms sc A n c hn h4
  · exact resetsOut w fr to sq ac fp tp fl wi ms sc A n c hn
end Go.Proofs.Ytkpdgfimibmoeaa.seg
