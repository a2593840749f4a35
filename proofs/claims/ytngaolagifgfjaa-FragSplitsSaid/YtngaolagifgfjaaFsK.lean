/-
  Chapter 7 (frag): a packet cloned, its rows apart, by a walk of its text. Conditions: none but those typed.
-/
import Derived.Test.YtngaolagifgfjaaFrB
namespace Go.Proofs.Ytngaolagifgfjaa.ip
set_option linter.unusedVariables false
set_option linter.unusedSimpArgs false
open Go.ChangeShapes Go.WideShapes Go.ChangeAt Go.RowKit Go.IntWalk Go.Lib
def CloF (sv pid : Int) (wh mo : Bool) (off lf pr fr to : Int) (on dn : Nat) (o d : List Int) (w : World) (x : Ending) (w' : World) : Prop := ∃ A1 c1 A2 c2, x = .returned (.agg #[.int .i64 sv, .int .i64 pid, .bool wh, .bool mo, .int .i64 off, .int .i64 lf, .int .i64 pr, .int .u32 fr, .int .u32 to, .slice A1 on c1, .slice A2 dn c2]) ∧ Own .u8 5 w' w.heap.size (.slice A1 on c1) o ∧ Own .u8 5 w' w.heap.size (.slice A2 dn c2) d ∧ Only [] w w' ∧ ∀ i, (Value.slice A1 on c1).ownBlock = some i → ∀ j, (Value.slice A2 dn c2).ownBlock = some j → i ≠ j
set_option maxRecDepth 100000 in
set_option maxHeartbeats 8000000 in
theorem fclone2 (w : World) (sv pid : Int) (wh mo : Bool) (off lf pr fr to : Int) (oA : Option Addr) (on oc : Nat) (dA : Option Addr) (dn dc : Nat) (o d : List Int) (ho : Rd .u8 w oA on o) (zo : oA = none → oc = 0) (hd : Rd .u8 w dA dn d) (zd : dA = none → dc = 0) (hon : on ≤ 100000) (hdn : dn ≤ 100000) :
    Calls Try.prog 29 #[.agg #[.int .i64 sv, .int .i64 pid, .bool wh, .bool mo, .int .i64 off, .int .i64 lf, .int .i64 pr, .int .u32 fr, .int .u32 to, .slice oA on oc, .slice dA dn dc]] w (CloF sv pid wh mo off lf pr fr to on dn o d w) := by
  have Hon := hid ho.len; have Hdn := hid hd.len; have HZo := hid zo; have HZd := hid zd
  obtain ⟨W1, hW1⟩ : ∃ W1, (w.alloc (.cells #[.int .i64 sv, .int .i64 pid, .bool wh, .bool mo, .int .i64 off, .int .i64 lf, .int .i64 pr, .int .u32 fr, .int .u32 to, .slice oA on oc, .slice dA dn dc] 26)).alloc (.cells #[.int .i64 0, .int .i64 0, .bool false, .bool false, .int .i64 0, .int .i64 0, .int .i64 0, .int .u32 0, .int .u32 0, .slice none 0 0, .slice none 0 0] 26) = W1 := ⟨_, rfl⟩
  have QA : Hid (Only [] w W1) := hid (by rw [← hW1]; exact ((Only.refl [] w).alloc _).alloc _)
  have OB : Hid (Ob W1 w.heap.size 26 #[.int .i64 sv, .int .i64 pid, .bool wh, .bool mo, .int .i64 off, .int .i64 lf, .int .i64 pr, .int .u32 fr, .int .u32 to, .slice oA on oc, .slice dA dn dc]) := hid (by rw [← hW1]; exact (Ob.new _ _ _).alloc _)
  have OT : Hid (Ob W1 (w.heap.size + 1) 26 #[.int .i64 0, .int .i64 0, .bool false, .bool false, .int .i64 0, .int .i64 0, .int .i64 0, .int .u32 0, .int .u32 0, .slice none 0 0, .slice none 0 0]) := hid (by rw [← hW1]; simpa using Ob.new (w.alloc (.cells #[.int .i64 sv, .int .i64 pid, .bool wh, .bool mo, .int .i64 off, .int .i64 lf, .int .i64 pr, .int .u32 fr, .int .u32 to, .slice oA on oc, .slice dA dn dc] 26)) 26 #[.int .i64 0, .int .i64 0, .bool false, .bool false, .int .i64 0, .int .i64 0, .int .i64 0, .int .u32 0, .int .u32 0, .slice none 0 0, .slice none 0 0])
  have HO := hid (ho.only_nil QA.out); have HD := hid (hd.only_nil QA.out)
  have HS0 : Hid (w.heap.size ≤ W1.heap.size) := hid QA.out.size
  clear ho hd zo zd
  go_enter Try.func29, Try.ntmps29
  go_wp2_with fail
  clear hW1
  refine wp_region_noPanic ?_
  refine rgn.regionT (R := AnyW) (by kernel_rfl) (fun _ => AnyW.any _ _) (fun _ _ _ _ _ => AnyW.any _ _) (fun _ _ _ _ _ h => h) (.y 0 (.y 3 (.b 1 4 (.b 2 4 (.e 4 (.y 6 (.e 5 (.e 7 (.y 8 (.e 9 .z)))))) (.e 2 (.y 6 (.e 5 (.e 7 (.y 8 (.e 9 .z))))))) (.e 1 (.e 2 (.y 6 (.e 5 (.e 7 (.y 8 (.e 9 .z)))))))))) (by kernel_rfl) (fun W hWd => ?_)
  have HWd := hid hWd; clear hWd
  have QW : Hid (Only [] W1 W) := hid (Only.eq_drew (Only.refl [] _) HWd.out)
  have OB := hid (OB.out.only QW.out (by simp)); have OT := hid (OT.out.only QW.out (by simp))
  have QB : Hid (Only [w.heap.size] W1 W1) := hid (Only.refl _ _)
  clear HWd
  refine rgn.Walk.ys (v := ?_) rfl rfl rfl ?_ ?_
  rotate_left 1
  · intro W' hW'
    go_simp
    try with_reducible rfl
  try simp only [Act.put, List.setIfInBounds_toArray, List.set_cons_zero, List.set_cons_succ]
  refine rgn.Walk.ys (v := ?_) rfl rfl rfl ?_ ?_
  rotate_left 1
  · intro W' hW'
    go_simp
    try with_reducible rfl
  try simp only [Act.put, List.setIfInBounds_toArray, List.set_cons_zero, List.set_cons_succ]
  refine rgn.Walk.bs ?_ ?_
  · refine rgn.stepE rfl rfl (fun K hK => ?_)
    have qq := OB.out.cell 9
    go_simp
    refine hK _ _ (AnyW.any _ _) ?_
    clear hK K qq
    try simp only [Act.put, List.setIfInBounds_toArray, List.set_cons_zero, List.set_cons_succ]
    refine rgn.Walk.bs ?_ ?_
    · refine rgn.stepE rfl rfl (fun K hK => ?_)
      go_simp
      refine (wrt.clone1 _ oA on oc o (HO.out.only_nil QW.out) HZo.out (by omega)).mono ?_
      rintro x w2 ⟨v2, rfl, h2, o2⟩
      refine hK _ _ (AnyW.any _ _) ?_
      clear hK K
      have V1s := hid (h2.mono_base (Nat.le_trans HS0.out QW.out.size))
      have QW := hid (QW.out.trans o2); have OB := hid (OB.out.only o2 (by simp)); have OT := hid (OT.out.only o2 (by simp))
      obtain ⟨A1, c1, rfl, _, _⟩ := own_form V1s.out
      have V1 : Hid (Own .u8 5 _ w.heap.size (.slice A1 on c1) o) := hid (by have h9 := V1s.out; rwa [Hon.out] at h9)
      rw [Hon.out]
      clear h2 o2 V1s
      try simp only [Act.put, List.setIfInBounds_toArray, List.set_cons_zero, List.set_cons_succ]
      refine rgn.Walk.es ?_
      refine rgn.stepE rfl rfl (fun K hK => ?_)
      have qq := OB.out.cell 10
      go_simp
      refine hK _ _ (AnyW.any _ _) ?_
      clear hK K qq
      try simp only [Act.put, List.setIfInBounds_toArray, List.set_cons_zero, List.set_cons_succ]
      refine rgn.Walk.ys (v := ?_) rfl rfl rfl ?_ ?_
      rotate_left 1
      · intro W' hW'
        go_simp
        try with_reducible rfl
      try simp only [Act.put, List.setIfInBounds_toArray, List.set_cons_zero, List.set_cons_succ]
      refine rgn.Walk.es ?_
      refine rgn.stepE rfl rfl (fun K hK => ?_)
      go_simp
      refine (wrt.clone1 _ dA dn dc d (HD.out.only_nil QW.out) HZd.out (by omega)).mono ?_
      rintro x w5 ⟨v5, rfl, h5, o5⟩
      refine hK _ _ (AnyW.any _ _) ?_
      clear hK K
      have HAp0 := hid (fun i (hi : (Value.slice A1 on c1).ownBlock = some i) j (hj : v5.ownBlock = some j) => (show i ≠ j from by have h1 := (V1.out.lt i hi).2; have h2 := (h5.lt j hj).1; omega))
      have V1 := hid (V1.out.only_nil o5)
      have V2s := hid (h5.mono_base (Nat.le_trans HS0.out QW.out.size))
      have QW := hid (QW.out.trans o5); have OB := hid (OB.out.only o5 (by simp)); have OT := hid (OT.out.only o5 (by simp))
      obtain ⟨A2, c2, rfl, _, _⟩ := own_form V2s.out
      have V2 : Hid (Own .u8 5 _ w.heap.size (.slice A2 dn c2) d) := hid (by have h9 := V2s.out; rwa [Hdn.out] at h9)
      rw [Hdn.out]
      clear h5 o5 V2s
      try simp only [Act.put, List.setIfInBounds_toArray, List.set_cons_zero, List.set_cons_succ]
      refine rgn.Walk.es ?_
      refine rgn.stepE rfl rfl (fun K hK => ?_)
      have qq := OB.out.cell 9; have ff := OB.out.frozen 9
      go_simp
      refine hK _ _ (AnyW.any _ _) ?_
      clear hK K qq ff
      have OBn := hid (OB.out.set 9 (.slice A1 on c1))
      have V1 := hid (V1.out.only ((Only.refl [w.heap.size] _).setCell (p := ⟨w.heap.size, 9, none⟩) (Or.inl (by simp)) (.slice A1 on c1)) (fun i hi hm => own_neP6 OB.out V1.out (by rw [hi, show i = w.heap.size from by simpa using hm])))
      have V2 := hid (V2.out.only ((Only.refl [w.heap.size] _).setCell (p := ⟨w.heap.size, 9, none⟩) (Or.inl (by simp)) (.slice A1 on c1)) (fun i hi hm => own_neP6 OB.out V2.out (by rw [hi, show i = w.heap.size from by simpa using hm])))
      have OT := hid (OT.out.far (p := ⟨w.heap.size, 9, none⟩) (by show w.heap.size + 1 ≠ w.heap.size; omega) (.slice A1 on c1))
      have OB : Hid (Ob _ w.heap.size 26 #[.int .i64 sv, .int .i64 pid, .bool wh, .bool mo, .int .i64 off, .int .i64 lf, .int .i64 pr, .int .u32 fr, .int .u32 to, .slice A1 on c1, .slice dA dn dc]) := OBn
      clear OBn
      have QB := hid (show Only [w.heap.size] W1 _ from (QB.out.trans (QW.out.more (by simp))).setCell (p := ⟨w.heap.size, 9, none⟩) (Or.inl (by simp)) (.slice A1 on c1))
      try simp only [Act.put, List.setIfInBounds_toArray, List.set_cons_zero, List.set_cons_succ]
      refine rgn.Walk.ys (v := ?_) rfl rfl rfl ?_ ?_
      rotate_left 1
      · intro W' hW'
        go_simp
        try with_reducible rfl
      try simp only [Act.put, List.setIfInBounds_toArray, List.set_cons_zero, List.set_cons_succ]
      refine rgn.Walk.es ?_
      refine rgn.stepE rfl rfl (fun K hK => ?_)
      have qq := OB.out.cell 10; have ff := OB.out.frozen 10
      go_simp
      refine hK _ _ (AnyW.any _ _) ?_
      clear hK K qq ff
      have OBn := hid (OB.out.set 10 (.slice A2 dn c2))
      have V1 := hid (V1.out.only ((Only.refl [w.heap.size] _).setCell (p := ⟨w.heap.size, 10, none⟩) (Or.inl (by simp)) (.slice A2 dn c2)) (fun i hi hm => own_neP6 OB.out V1.out (by rw [hi, show i = w.heap.size from by simpa using hm])))
      have V2 := hid (V2.out.only ((Only.refl [w.heap.size] _).setCell (p := ⟨w.heap.size, 10, none⟩) (Or.inl (by simp)) (.slice A2 dn c2)) (fun i hi hm => own_neP6 OB.out V2.out (by rw [hi, show i = w.heap.size from by simpa using hm])))
      have OT := hid (OT.out.far (p := ⟨w.heap.size, 10, none⟩) (by show w.heap.size + 1 ≠ w.heap.size; omega) (.slice A2 dn c2))
      have OB : Hid (Ob _ w.heap.size 26 #[.int .i64 sv, .int .i64 pid, .bool wh, .bool mo, .int .i64 off, .int .i64 lf, .int .i64 pr, .int .u32 fr, .int .u32 to, .slice A1 on c1, .slice A2 dn c2]) := OBn
      clear OBn
      have QB := hid (QB.out.setCell (p := ⟨w.heap.size, 10, none⟩) (Or.inl (by simp)) (.slice A2 dn c2))
      try simp only [Act.put, List.setIfInBounds_toArray, List.set_cons_zero, List.set_cons_succ]
      refine rgn.Walk.zs (NoPanic.normal ?_)
      go_wp2_with (first
    | (refine wp_loadOb rfl 26 _ rfl _ rfl _ _ OB.out Try.underlying26 rfl (by kernel_rfl) ?_; try simp only [Act.put, List.setIfInBounds_toArray, List.set_cons_zero, List.set_cons_succ])
    | (refine wp_storeOb rfl 26 _ _ rfl _ _ rfl rfl _ _ OT.out rfl (by kernel_rfl) (by simp [Value.oneCell']) ?_; intro w9 hW9; try simp only [Act.put, List.setIfInBounds_toArray, List.set_cons_zero, List.set_cons_succ]; have o9 := Only.eq_all (Only.refl [w.heap.size + 1] _) hW9 (Or.inl (by simp)); have OT9 := hid (OT.out.eq_all hW9 rfl); have W1o := hid (V1.out.only o9 (fun i hi hm => own_neP6 OT.out V1.out (by rw [hi, show i = w.heap.size + 1 from by simpa using hm]))); have W2o := hid (V2.out.only o9 (fun i hi hm => own_neP6 OT.out V2.out (by rw [hi, show i = w.heap.size + 1 from by simpa using hm]))); have Q9 := hid (Only.fresh (Only.fresh QA.out QB.out (fun i hi => .inr (by simp at hi; omega))) o9 (fun i hi => .inr (by simp at hi; omega))); clear hW9 o9))
      have r0 := OT9.out.cell 0; have r1 := OT9.out.cell 1; have r2 := OT9.out.cell 2; have r3 := OT9.out.cell 3; have r4 := OT9.out.cell 4; have r5 := OT9.out.cell 5; have r6 := OT9.out.cell 6; have r7 := OT9.out.cell 7; have r8 := OT9.out.cell 8; have r9 := OT9.out.cell 9; have r10 := OT9.out.cell 10
      exact bodyPost_ret (v := .agg #[.int .i64 sv, .int .i64 pid, .bool wh, .bool mo, .int .i64 off, .int .i64 lf, .int .i64 pr, .int .u32 fr, .int .u32 to, .slice A1 on c1, .slice A2 dn c2]) (by simp [results, Try.results29, go_sem, *]) rfl ⟨A1, c1, A2, c2, rfl, W1o.out, W2o.out, Q9.out, (by have h9 := HAp0.out; rw [Hdn.out] at h9; exact h9)⟩
    · refine rgn.stepE rfl rfl (fun K hK => ?_)
      have qq := OB.out.cell 10
      go_simp
      refine hK _ _ (AnyW.any _ _) ?_
      clear hK K qq
      try simp only [Act.put, List.setIfInBounds_toArray, List.set_cons_zero, List.set_cons_succ]
      refine rgn.Walk.es ?_
      refine rgn.stepE rfl rfl (fun K hK => ?_)
      go_simp
      refine (wrt.clone1 _ oA on oc o (HO.out.only_nil QW.out) HZo.out (by omega)).mono ?_
      rintro x w2 ⟨v2, rfl, h2, o2⟩
      refine hK _ _ (AnyW.any _ _) ?_
      clear hK K
      have V1s := hid (h2.mono_base (Nat.le_trans HS0.out QW.out.size))
      have QW := hid (QW.out.trans o2); have OB := hid (OB.out.only o2 (by simp)); have OT := hid (OT.out.only o2 (by simp))
      obtain ⟨A1, c1, rfl, _, _⟩ := own_form V1s.out
      have V1 : Hid (Own .u8 5 _ w.heap.size (.slice A1 on c1) o) := hid (by have h9 := V1s.out; rwa [Hon.out] at h9)
      rw [Hon.out]
      clear h2 o2 V1s
      try simp only [Act.put, List.setIfInBounds_toArray, List.set_cons_zero, List.set_cons_succ]
      refine rgn.Walk.ys (v := ?_) rfl rfl rfl ?_ ?_
      rotate_left 1
      · intro W' hW'
        go_simp
        try with_reducible rfl
      try simp only [Act.put, List.setIfInBounds_toArray, List.set_cons_zero, List.set_cons_succ]
      refine rgn.Walk.es ?_
      refine rgn.stepE rfl rfl (fun K hK => ?_)
      go_simp
      refine (wrt.clone1 _ dA dn dc d (HD.out.only_nil QW.out) HZd.out (by omega)).mono ?_
      rintro x w5 ⟨v5, rfl, h5, o5⟩
      refine hK _ _ (AnyW.any _ _) ?_
      clear hK K
      have HAp0 := hid (fun i (hi : (Value.slice A1 on c1).ownBlock = some i) j (hj : v5.ownBlock = some j) => (show i ≠ j from by have h1 := (V1.out.lt i hi).2; have h2 := (h5.lt j hj).1; omega))
      have V1 := hid (V1.out.only_nil o5)
      have V2s := hid (h5.mono_base (Nat.le_trans HS0.out QW.out.size))
      have QW := hid (QW.out.trans o5); have OB := hid (OB.out.only o5 (by simp)); have OT := hid (OT.out.only o5 (by simp))
      obtain ⟨A2, c2, rfl, _, _⟩ := own_form V2s.out
      have V2 : Hid (Own .u8 5 _ w.heap.size (.slice A2 dn c2) d) := hid (by have h9 := V2s.out; rwa [Hdn.out] at h9)
      rw [Hdn.out]
      clear h5 o5 V2s
      try simp only [Act.put, List.setIfInBounds_toArray, List.set_cons_zero, List.set_cons_succ]
      refine rgn.Walk.es ?_
      refine rgn.stepE rfl rfl (fun K hK => ?_)
      have qq := OB.out.cell 9; have ff := OB.out.frozen 9
      go_simp
      refine hK _ _ (AnyW.any _ _) ?_
      clear hK K qq ff
      have OBn := hid (OB.out.set 9 (.slice A1 on c1))
      have V1 := hid (V1.out.only ((Only.refl [w.heap.size] _).setCell (p := ⟨w.heap.size, 9, none⟩) (Or.inl (by simp)) (.slice A1 on c1)) (fun i hi hm => own_neP6 OB.out V1.out (by rw [hi, show i = w.heap.size from by simpa using hm])))
      have V2 := hid (V2.out.only ((Only.refl [w.heap.size] _).setCell (p := ⟨w.heap.size, 9, none⟩) (Or.inl (by simp)) (.slice A1 on c1)) (fun i hi hm => own_neP6 OB.out V2.out (by rw [hi, show i = w.heap.size from by simpa using hm])))
      have OT := hid (OT.out.far (p := ⟨w.heap.size, 9, none⟩) (by show w.heap.size + 1 ≠ w.heap.size; omega) (.slice A1 on c1))
      have OB : Hid (Ob _ w.heap.size 26 #[.int .i64 sv, .int .i64 pid, .bool wh, .bool mo, .int .i64 off, .int .i64 lf, .int .i64 pr, .int .u32 fr, .int .u32 to, .slice A1 on c1, .slice dA dn dc]) := OBn
      clear OBn
      have QB := hid (show Only [w.heap.size] W1 _ from (QB.out.trans (QW.out.more (by simp))).setCell (p := ⟨w.heap.size, 9, none⟩) (Or.inl (by simp)) (.slice A1 on c1))
      try simp only [Act.put, List.setIfInBounds_toArray, List.set_cons_zero, List.set_cons_succ]
      refine rgn.Walk.ys (v := ?_) rfl rfl rfl ?_ ?_
      rotate_left 1
      · intro W' hW'
        go_simp
        try with_reducible rfl
      try simp only [Act.put, List.setIfInBounds_toArray, List.set_cons_zero, List.set_cons_succ]
      refine rgn.Walk.es ?_
      refine rgn.stepE rfl rfl (fun K hK => ?_)
      have qq := OB.out.cell 10; have ff := OB.out.frozen 10
      go_simp
      refine hK _ _ (AnyW.any _ _) ?_
      clear hK K qq ff
      have OBn := hid (OB.out.set 10 (.slice A2 dn c2))
      have V1 := hid (V1.out.only ((Only.refl [w.heap.size] _).setCell (p := ⟨w.heap.size, 10, none⟩) (Or.inl (by simp)) (.slice A2 dn c2)) (fun i hi hm => own_neP6 OB.out V1.out (by rw [hi, show i = w.heap.size from by simpa using hm])))
      have V2 := hid (V2.out.only ((Only.refl [w.heap.size] _).setCell (p := ⟨w.heap.size, 10, none⟩) (Or.inl (by simp)) (.slice A2 dn c2)) (fun i hi hm => own_neP6 OB.out V2.out (by rw [hi, show i = w.heap.size from by simpa using hm])))
      have OT := hid (OT.out.far (p := ⟨w.heap.size, 10, none⟩) (by show w.heap.size + 1 ≠ w.heap.size; omega) (.slice A2 dn c2))
      have OB : Hid (Ob _ w.heap.size 26 #[.int .i64 sv, .int .i64 pid, .bool wh, .bool mo, .int .i64 off, .int .i64 lf, .int .i64 pr, .int .u32 fr, .int .u32 to, .slice A1 on c1, .slice A2 dn c2]) := OBn
      clear OBn
      have QB := hid (QB.out.setCell (p := ⟨w.heap.size, 10, none⟩) (Or.inl (by simp)) (.slice A2 dn c2))
      try simp only [Act.put, List.setIfInBounds_toArray, List.set_cons_zero, List.set_cons_succ]
      refine rgn.Walk.zs (NoPanic.normal ?_)
      go_wp2_with (first
    | (refine wp_loadOb rfl 26 _ rfl _ rfl _ _ OB.out Try.underlying26 rfl (by kernel_rfl) ?_; try simp only [Act.put, List.setIfInBounds_toArray, List.set_cons_zero, List.set_cons_succ])
    | (refine wp_storeOb rfl 26 _ _ rfl _ _ rfl rfl _ _ OT.out rfl (by kernel_rfl) (by simp [Value.oneCell']) ?_; intro w9 hW9; try simp only [Act.put, List.setIfInBounds_toArray, List.set_cons_zero, List.set_cons_succ]; have o9 := Only.eq_all (Only.refl [w.heap.size + 1] _) hW9 (Or.inl (by simp)); have OT9 := hid (OT.out.eq_all hW9 rfl); have W1o := hid (V1.out.only o9 (fun i hi hm => own_neP6 OT.out V1.out (by rw [hi, show i = w.heap.size + 1 from by simpa using hm]))); have W2o := hid (V2.out.only o9 (fun i hi hm => own_neP6 OT.out V2.out (by rw [hi, show i = w.heap.size + 1 from by simpa using hm]))); have Q9 := hid (Only.fresh (Only.fresh QA.out QB.out (fun i hi => .inr (by simp at hi; omega))) o9 (fun i hi => .inr (by simp at hi; omega))); clear hW9 o9))
      have r0 := OT9.out.cell 0; have r1 := OT9.out.cell 1; have r2 := OT9.out.cell 2; have r3 := OT9.out.cell 3; have r4 := OT9.out.cell 4; have r5 := OT9.out.cell 5; have r6 := OT9.out.cell 6; have r7 := OT9.out.cell 7; have r8 := OT9.out.cell 8; have r9 := OT9.out.cell 9; have r10 := OT9.out.cell 10
      exact bodyPost_ret (v := .agg #[.int .i64 sv, .int .i64 pid, .bool wh, .bool mo, .int .i64 off, .int .i64 lf, .int .i64 pr, .int .u32 fr, .int .u32 to, .slice A1 on c1, .slice A2 dn c2]) (by simp [results, Try.results29, go_sem, *]) rfl ⟨A1, c1, A2, c2, rfl, W1o.out, W2o.out, Q9.out, (by have h9 := HAp0.out; rw [Hdn.out] at h9; exact h9)⟩
  · refine rgn.stepE rfl rfl (fun K hK => ?_)
    have qq := OB.out.cell 10
    go_simp
    refine hK _ _ (AnyW.any _ _) ?_
    clear hK K qq
    try simp only [Act.put, List.setIfInBounds_toArray, List.set_cons_zero, List.set_cons_succ]
    refine rgn.Walk.es ?_
    refine rgn.stepE rfl rfl (fun K hK => ?_)
    have qq := OB.out.cell 9
    go_simp
    refine hK _ _ (AnyW.any _ _) ?_
    clear hK K qq
    try simp only [Act.put, List.setIfInBounds_toArray, List.set_cons_zero, List.set_cons_succ]
    refine rgn.Walk.es ?_
    refine rgn.stepE rfl rfl (fun K hK => ?_)
    go_simp
    refine (wrt.clone1 _ oA on oc o (HO.out.only_nil QW.out) HZo.out (by omega)).mono ?_
    rintro x w2 ⟨v2, rfl, h2, o2⟩
    refine hK _ _ (AnyW.any _ _) ?_
    clear hK K
    have V1s := hid (h2.mono_base (Nat.le_trans HS0.out QW.out.size))
    have QW := hid (QW.out.trans o2); have OB := hid (OB.out.only o2 (by simp)); have OT := hid (OT.out.only o2 (by simp))
    obtain ⟨A1, c1, rfl, _, _⟩ := own_form V1s.out
    have V1 : Hid (Own .u8 5 _ w.heap.size (.slice A1 on c1) o) := hid (by have h9 := V1s.out; rwa [Hon.out] at h9)
    rw [Hon.out]
    clear h2 o2 V1s
    try simp only [Act.put, List.setIfInBounds_toArray, List.set_cons_zero, List.set_cons_succ]
    refine rgn.Walk.ys (v := ?_) rfl rfl rfl ?_ ?_
    rotate_left 1
    · intro W' hW'
      go_simp
      try with_reducible rfl
    try simp only [Act.put, List.setIfInBounds_toArray, List.set_cons_zero, List.set_cons_succ]
    refine rgn.Walk.es ?_
    refine rgn.stepE rfl rfl (fun K hK => ?_)
    go_simp
    refine (wrt.clone1 _ dA dn dc d (HD.out.only_nil QW.out) HZd.out (by omega)).mono ?_
    rintro x w5 ⟨v5, rfl, h5, o5⟩
    refine hK _ _ (AnyW.any _ _) ?_
    clear hK K
    have HAp0 := hid (fun i (hi : (Value.slice A1 on c1).ownBlock = some i) j (hj : v5.ownBlock = some j) => (show i ≠ j from by have h1 := (V1.out.lt i hi).2; have h2 := (h5.lt j hj).1; omega))
    have V1 := hid (V1.out.only_nil o5)
    have V2s := hid (h5.mono_base (Nat.le_trans HS0.out QW.out.size))
    have QW := hid (QW.out.trans o5); have OB := hid (OB.out.only o5 (by simp)); have OT := hid (OT.out.only o5 (by simp))
    obtain ⟨A2, c2, rfl, _, _⟩ := own_form V2s.out
    have V2 : Hid (Own .u8 5 _ w.heap.size (.slice A2 dn c2) d) := hid (by have h9 := V2s.out; rwa [Hdn.out] at h9)
    rw [Hdn.out]
    clear h5 o5 V2s
    try simp only [Act.put, List.setIfInBounds_toArray, List.set_cons_zero, List.set_cons_succ]
    refine rgn.Walk.es ?_
    refine rgn.stepE rfl rfl (fun K hK => ?_)
    have qq := OB.out.cell 9; have ff := OB.out.frozen 9
    go_simp
    refine hK _ _ (AnyW.any _ _) ?_
    clear hK K qq ff
    have OBn := hid (OB.out.set 9 (.slice A1 on c1))
    have V1 := hid (V1.out.only ((Only.refl [w.heap.size] _).setCell (p := ⟨w.heap.size, 9, none⟩) (Or.inl (by simp)) (.slice A1 on c1)) (fun i hi hm => own_neP6 OB.out V1.out (by rw [hi, show i = w.heap.size from by simpa using hm])))
    have V2 := hid (V2.out.only ((Only.refl [w.heap.size] _).setCell (p := ⟨w.heap.size, 9, none⟩) (Or.inl (by simp)) (.slice A1 on c1)) (fun i hi hm => own_neP6 OB.out V2.out (by rw [hi, show i = w.heap.size from by simpa using hm])))
    have OT := hid (OT.out.far (p := ⟨w.heap.size, 9, none⟩) (by show w.heap.size + 1 ≠ w.heap.size; omega) (.slice A1 on c1))
    have OB : Hid (Ob _ w.heap.size 26 #[.int .i64 sv, .int .i64 pid, .bool wh, .bool mo, .int .i64 off, .int .i64 lf, .int .i64 pr, .int .u32 fr, .int .u32 to, .slice A1 on c1, .slice dA dn dc]) := OBn
    clear OBn
    have QB := hid (show Only [w.heap.size] W1 _ from (QB.out.trans (QW.out.more (by simp))).setCell (p := ⟨w.heap.size, 9, none⟩) (Or.inl (by simp)) (.slice A1 on c1))
    try simp only [Act.put, List.setIfInBounds_toArray, List.set_cons_zero, List.set_cons_succ]
    refine rgn.Walk.ys (v := ?_) rfl rfl rfl ?_ ?_
    rotate_left 1
    · intro W' hW'
      go_simp
      try with_reducible rfl
    try simp only [Act.put, List.setIfInBounds_toArray, List.set_cons_zero, List.set_cons_succ]
    refine rgn.Walk.es ?_
    refine rgn.stepE rfl rfl (fun K hK => ?_)
    have qq := OB.out.cell 10; have ff := OB.out.frozen 10
    go_simp
    refine hK _ _ (AnyW.any _ _) ?_
    clear hK K qq ff
    have OBn := hid (OB.out.set 10 (.slice A2 dn c2))
    have V1 := hid (V1.out.only ((Only.refl [w.heap.size] _).setCell (p := ⟨w.heap.size, 10, none⟩) (Or.inl (by simp)) (.slice A2 dn c2)) (fun i hi hm => own_neP6 OB.out V1.out (by rw [hi, show i = w.heap.size from by simpa using hm])))
    have V2 := hid (V2.out.only ((Only.refl [w.heap.size] _).setCell (p := ⟨w.heap.size, 10, none⟩) (Or.inl (by simp)) (.slice A2 dn c2)) (fun i hi hm => own_neP6 OB.out V2.out (by rw [hi, show i = w.heap.size from by simpa using hm])))
    have OT := hid (OT.out.far (p := ⟨w.heap.size, 10, none⟩) (by show w.heap.size + 1 ≠ w.heap.size; omega) (.slice A2 dn c2))
    have OB : Hid (Ob _ w.heap.size 26 #[.int .i64 sv, .int .i64 pid, .bool wh, .bool mo, .int .i64 off, .int .i64 lf, .int .i64 pr, .int .u32 fr, .int .u32 to, .slice A1 on c1, .slice A2 dn c2]) := OBn
    clear OBn
    have QB := hid (QB.out.setCell (p := ⟨w.heap.size, 10, none⟩) (Or.inl (by simp)) (.slice A2 dn c2))
    try simp only [Act.put, List.setIfInBounds_toArray, List.set_cons_zero, List.set_cons_succ]
    refine rgn.Walk.zs (NoPanic.normal ?_)
    go_wp2_with (first
    | (refine wp_loadOb rfl 26 _ rfl _ rfl _ _ OB.out Try.underlying26 rfl (by kernel_rfl) ?_; try simp only [Act.put, List.setIfInBounds_toArray, List.set_cons_zero, List.set_cons_succ])
    | (refine wp_storeOb rfl 26 _ _ rfl _ _ rfl rfl _ _ OT.out rfl (by kernel_rfl) (by simp [Value.oneCell']) ?_; intro w9 hW9; try simp only [Act.put, List.setIfInBounds_toArray, List.set_cons_zero, List.set_cons_succ]; have o9 := Only.eq_all (Only.refl [w.heap.size + 1] _) hW9 (Or.inl (by simp)); have OT9 := hid (OT.out.eq_all hW9 rfl); have W1o := hid (V1.out.only o9 (fun i hi hm => own_neP6 OT.out V1.out (by rw [hi, show i = w.heap.size + 1 from by simpa using hm]))); have W2o := hid (V2.out.only o9 (fun i hi hm => own_neP6 OT.out V2.out (by rw [hi, show i = w.heap.size + 1 from by simpa using hm]))); have Q9 := hid (Only.fresh (Only.fresh QA.out QB.out (fun i hi => .inr (by simp at hi; omega))) o9 (fun i hi => .inr (by simp at hi; omega))); clear hW9 o9))
    have r0 := OT9.out.cell 0; have r1 := OT9.out.cell 1; have r2 := OT9.out.cell 2; have r3 := OT9.out.cell 3; have r4 := OT9.out.cell 4; have r5 := OT9.out.cell 5; have r6 := OT9.out.cell 6; have r7 := OT9.out.cell 7; have r8 := OT9.out.cell 8; have r9 := OT9.out.cell 9; have r10 := OT9.out.cell 10
    exact bodyPost_ret (v := .agg #[.int .i64 sv, .int .i64 pid, .bool wh, .bool mo, .int .i64 off, .int .i64 lf, .int .i64 pr, .int .u32 fr, .int .u32 to, .slice A1 on c1, .slice A2 dn c2]) (by simp [results, Try.results29, go_sem, *]) rfl ⟨A1, c1, A2, c2, rfl, W1o.out, W2o.out, Q9.out, (by have h9 := HAp0.out; rw [Hdn.out] at h9; exact h9)⟩
end Go.Proofs.Ytngaolagifgfjaa.ip
