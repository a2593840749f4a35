/-
  Chapter 10 (igmp): Join of the program, by a walk of its text. Conditions: none but those typed.
-/
import Derived.Test.YtodcjokafjdhdaaIgA
namespace Go.Proofs.Ytodcjokafjdhdaa.igm
set_option linter.unusedVariables false
set_option linter.unusedSimpArgs false
open Go.ChangeShapes Go.WideShapes Go.ChangeAt Go.RowKit Go.IntWalk Go.Lib
/-- Objects of unlike types lie in unlike blocks. -/
theorem ob_ne {w : World} {a b : Nat} {T1 T2 : TypeId} {c1 c2 : Array Value} (h1 : Ob w a T1 c1) (h2 : Ob w b T2 c2) (hT : T1 ≠ T2) : a ≠ b := fun e => by
  subst e
  have h3 : some (Obj.cells c1 T1 (0, 0)) = some (Obj.cells c2 T2 (0, 0)) := Eq.trans (Eq.symm h1) h2
  injection h3 with h3
  injection h3 with _ h4
  exact hT h4
theorem setCell_size (w : World) (p : Addr) (u : Value) : (w.setCell p u).heap.size = w.heap.size := by simp [World.setCell]
theorem ob_new_set (w : World) (p : Addr) (u : Value) (T : TypeId) (cs : Array Value) : Ob ((w.setCell p u).alloc (.cells cs T)) w.heap.size T cs := by
  have h := Ob.new (w.setCell p u) T cs
  rwa [setCell_size] at h
theorem ob_own {w : World} {g B sz n : Nat} {T1 T2 : TypeId} {cs : Array Value} {v : Value} {xs : List Value} (h1 : Ob w g T1 cs) (h2 : w.ownsRow B T2 sz v n xs) (hT : T1 ≠ T2) : v.ownBlock ≠ some g := fun e => by
  rcases h2.2 with ⟨hv, _⟩ | ⟨p, cap, cur, hv, _, hh, _⟩
  · rw [hv] at e; cases e
  · rw [hv] at e
    have e1 : p = g := by simpa [Value.ownBlock] using e
    subst e1
    exact ob_ne h1 hh hT rfl
set_option maxRecDepth 100000 in
theorem joinArg (w : World) (g : Nat) (t now draw : Int) (h : t ≤ 3758096385 ∨ 4026531840 ≤ t) : Calls Try.prog 22 #[.pointer (some ⟨g, 0, none⟩), .int .u32 t, .int .i64 now, .int .i64 draw] w fun x w' => x = .returned (.tuple #[.slice none 0 0, .int .i64 1]) ∧ w = w' := by
  by_cases h1 : t ≤ 3758096385
  · go_enter Try.func22, Try.ntmps22
    go_wp2_with fail
    go_ret2
    exact ⟨rfl, rfl⟩
  · have h2 : 4026531840 ≤ t := by omega
    clear h
    go_enter Try.func22, Try.ntmps22
    go_wp2_with fail
    go_ret2
    exact ⟨rfl, rfl⟩
set_option maxRecDepth 100000 in
theorem joinHas (w : World) (base g : Nat) (v : Value) (M : List Mb) (t now draw : Int) (ho : Ob w g 46 #[v]) (hv : w.ownsRow base 77 3 v M.length (rws Mb.enc M)) (hL : Rise M) (hb : M.length ≤ 16) (h1 : ¬ t ≤ 3758096385) (h2 : ¬ 4026531840 ≤ t) (hh : has M t = true) : Calls Try.prog 22 #[.pointer (some ⟨g, 0, none⟩), .int .u32 t, .int .i64 now, .int .i64 draw] w fun x w' => x = .returned (.tuple #[.slice none 0 0, .int .i64 8]) ∧ Only [] w w' := by
  obtain ⟨A, c, rfl, _, _, _, hr, _, _⟩ := RdS.of_own hv (rws_one enc_one _)
  go_enter Try.func22, Try.ntmps22
  go_wp2_with fail
  refine (find1 w g A M M.length c t ho hr rfl hL (by omega)).mono ?_
  rintro x w1 ⟨rfl, o1⟩
  rw [hh]
  have O1 := hid o1; clear o1
  go_wp2_with fail
  go_ret2
  exact ⟨rfl, O1.out⟩
set_option maxRecDepth 100000 in
theorem joinFull (w : World) (base g : Nat) (v : Value) (M : List Mb) (t now draw : Int) (ho : Ob w g 46 #[v]) (hv : w.ownsRow base 77 3 v M.length (rws Mb.enc M)) (hL : Rise M) (hb : M.length = 16) (h1 : ¬ t ≤ 3758096385) (h2 : ¬ 4026531840 ≤ t) (hh : has M t = false) : Calls Try.prog 22 #[.pointer (some ⟨g, 0, none⟩), .int .u32 t, .int .i64 now, .int .i64 draw] w fun x w' => x = .returned (.tuple #[.slice none 0 0, .int .i64 6]) ∧ Only [] w w' := by
  obtain ⟨A, c, rfl, _, _, _, hr, _, _⟩ := RdS.of_own hv (rws_one enc_one _)
  go_enter Try.func22, Try.ntmps22
  go_wp2_with fail
  refine (find1 w g A M M.length c t ho hr rfl hL (by omega)).mono ?_
  rintro x w1 ⟨rfl, o1⟩
  rw [hh]
  have k0 := (ho.only o1 (by simp)).cell 0
  have O1 := hid o1; clear o1
  rw [hb] at k0
  go_wp2_with fail
  go_ret2
  exact ⟨rfl, O1.out⟩
def JoinE (base g : Nat) (v : Value) (M : List Mb) (t now draw : Int) (w : World) (x : Ending) (w' : World) : Prop :=
  ∃ (rb : Nat) (v' : Value) (b : Nat), x = .returned (.tuple #[.slice (some ⟨rb, 0, none⟩) 1 1, .int .i64 0]) ∧ Ob w' rb 25 #[.int .i64 22, .int .i64 0, .int .u32 t] ∧ w.heap.size ≤ rb ∧ Ob w' g 46 #[v'] ∧ w'.ownsRow base 77 3 v' (M.length + 1) (rws Mb.enc (insL M (spot M t) ⟨t, some b, true⟩)) ∧ Ob w' b 3 #[.int .i64 (laterZ now (dly draw.toNat (spot M t) 10 : Nat))] ∧ w.heap.size ≤ b ∧ Only (g :: v.ownBlock.toList) w w' ∧ (v'.ownBlock = v.ownBlock ∨ ∀ j, v'.ownBlock = some j → w.heap.size ≤ j)
set_option maxRecDepth 100000 in
set_option maxHeartbeats 8000000 in
theorem joinOk (w : World) (base g : Nat) (v : Value) (M : List Mb) (t now draw : Int) (ho : Ob w g 46 #[v]) (hv : w.ownsRow base 77 3 v M.length (rws Mb.enc M)) (hL : Rise M) (hbase : base ≤ w.heap.size) (hb : M.length < 16) (h1 : ¬ t ≤ 3758096385) (h2 : ¬ 4026531840 ≤ t) (hh : has M t = false) (hnow : -9223372036854775808 ≤ now ∧ now ≤ 9223372036854775807) (hdr : draw ≤ 9223372036854775807) :
    Calls Try.prog 22 #[.pointer (some ⟨g, 0, none⟩), .int .u32 t, .int .i64 now, .int .i64 draw] w (JoinE base g v M t now draw w) := by
  obtain ⟨A, c, ev, _, _, _, hr, _, _⟩ := RdS.of_own hv (rws_one enc_one _)
  subst ev
  obtain ⟨i, hi⟩ : ∃ i, spot M t = i := ⟨_, rfl⟩
  have HI : Hid (i ≤ M.length) := hid (by rw [← hi]; exact List.countP_le_length)
  have HL16 := hid hb; have HBs := hid hbase
  have hi16 : i ≤ 16 := by have := HI.out; omega
  have HSi := hid hi
  have HM := hid (rfl : M.length = M.length)
  go_enter Try.func22, Try.ntmps22
  go_wp2_with fail
  refine (find1 w g A M M.length c t ho hr rfl hL (by omega)).mono ?_
  rintro x w2 ⟨rfl, o2⟩
  rw [hh, hi]
  have HO2 := hid (ho.only o2 (by simp)); have HV2 := hid (own_only_nil hv o2); have Q2 := hid o2
  have k0 := HO2.out.cell 0
  have hn16 : ¬ (16 : Int) ≤ (M.length : Int) := by omega
  clear ho hv hr o2 hh hi hb hbase
  go_wp2_with fail
  clear k0
  unfold JoinE
  rw [HSi.out]
  obtain ⟨v, hvv⟩ : ∃ v, Value.slice A M.length c = v := ⟨_, rfl⟩
  rw [hvv] at HO2 HV2 ⊢
  have HVV := hid hvv; clear hvv
  refine wp_region_noPanic ?_
  refine rgn.regionT (R := AnyW) (by kernel_rfl) (fun _ => AnyW.any _ _) (fun _ _ _ _ _ => AnyW.any _ _) (fun _ _ _ _ _ h => h) (.y 0 (.y 1 (.y 2 (.y 3 (.y 5 (.y 6 (.y 7 (.y 8 (.y 9 (.b 4 10 (.e 10 (.y 11 (.e 12 (.e 13 (.y 14 (.y 15 (.e 16 .z))))))) (.y 11 (.b 4 12 (.e 12 (.e 13 (.y 14 (.y 15 (.e 16 .z))))) (.e 4 (.e 13 (.y 14 (.y 15 (.e 16 .z))))))))))))))))) (by kernel_rfl) (fun W hWd => ?_)
  have HWd := hid hWd; clear hWd
  have q8 : Only [] w2 W := Only.eq_drew (Only.refl [] _) HWd.out
  have HO := hid (HO2.out.only q8 (by simp)); have HV := hid (own_only_nil HV2.out q8); have Q := hid (Q2.out.trans q8)
  clear HWd q8
  refine rgn.Walk.ys (v := ?_) rfl rfl rfl ?_ ?_
  rotate_left 1
  · intro W' hW'
    go_simp
    try with_reducible rfl
  try simp only [Act.put, List.setIfInBounds_toArray, List.set_cons_zero, List.set_cons_succ]
  refine rgn.Walk.ys (v := ?_) rfl rfl rfl ?_ ?_
  rotate_left 1
  · intro W' hW'
    go_simp
    try with_reducible rfl
  try simp only [Act.put, List.setIfInBounds_toArray, List.set_cons_zero, List.set_cons_succ]
  refine rgn.Walk.ys (v := ?_) rfl rfl rfl ?_ ?_
  rotate_left 1
  · intro W' hW'
    go_simp
    try with_reducible rfl
  try simp only [Act.put, List.setIfInBounds_toArray, List.set_cons_zero, List.set_cons_succ]
  refine rgn.Walk.ys (v := ?_) rfl rfl rfl ?_ ?_
  rotate_left 1
  · intro W' hW'
    go_simp
    try with_reducible rfl
  try simp only [Act.put, List.setIfInBounds_toArray, List.set_cons_zero, List.set_cons_succ]
  refine rgn.Walk.ys (v := ?_) rfl rfl rfl ?_ ?_
  rotate_left 1
  · intro W' hW'
    go_simp
    try with_reducible rfl
  try simp only [Act.put, List.setIfInBounds_toArray, List.set_cons_zero, List.set_cons_succ]
  refine rgn.Walk.ys (v := ?_) rfl rfl rfl ?_ ?_
  rotate_left 1
  · intro W' hW'
    go_simp
    try with_reducible rfl
  try simp only [Act.put, List.setIfInBounds_toArray, List.set_cons_zero, List.set_cons_succ]
  refine rgn.Walk.ys (v := ?_) rfl rfl rfl ?_ ?_
  rotate_left 1
  · intro W' hW'
    go_simp
    try with_reducible rfl
  try simp only [Act.put, List.setIfInBounds_toArray, List.set_cons_zero, List.set_cons_succ]
  refine rgn.Walk.ys (v := ?_) rfl rfl rfl ?_ ?_
  rotate_left 1
  · intro W' hW'
    go_simp
    try with_reducible rfl
  try simp only [Act.put, List.setIfInBounds_toArray, List.set_cons_zero, List.set_cons_succ]
  refine rgn.Walk.ys (v := ?_) rfl rfl rfl ?_ ?_
  rotate_left 1
  · intro W' hW'
    go_simp
    try with_reducible rfl
  try simp only [Act.put, List.setIfInBounds_toArray, List.set_cons_zero, List.set_cons_succ]
  refine rgn.Walk.bs ?_ ?_
  · refine rgn.stepE rfl rfl (fun K hK => ?_)
    have qq := HO.out.cell 0
    go_simp
    refine hK _ _ (AnyW.any _ _) ?_
    clear hK K qq
    try simp only [Act.put, List.setIfInBounds_toArray, List.set_cons_zero, List.set_cons_succ]
    refine rgn.Walk.es ?_
    refine rgn.stepE rfl rfl (fun K hK => ?_)
    go_simp
    refine (delayed1 _ now draw 10 i hnow hdr (by omega) (by omega)).mono ?_
    rintro x w5 ⟨b, rfl, hb5, o5, hs5⟩
    refine hK _ _ (AnyW.any _ _) ?_
    clear hK K
    have HO := hid (HO.out.only o5 (by simp)); have HV := hid (own_only_nil HV.out o5); have D := hid hb5; have HS := hid (Nat.le_trans Q.out.size hs5); have Q := hid (Q.out.trans o5)
    clear hb5 o5 hs5
    try simp only [Act.put, List.setIfInBounds_toArray, List.set_cons_zero, List.set_cons_succ]
    refine rgn.Walk.ys (v := ?_) rfl rfl rfl ?_ ?_
    rotate_left 1
    · intro W' hW'
      go_simp
      try with_reducible rfl
    try simp only [Act.put, List.setIfInBounds_toArray, List.set_cons_zero, List.set_cons_succ]
    refine rgn.Walk.es ?_
    refine rgn.stepE rfl rfl (fun K hK => ?_)
    go_simp
    refine hK _ _ (AnyW.any _ _) ?_
    clear hK K
    have HSg := hid (show w.heap.size ≤ (w5.alloc (.cells #[.int .u32 t, .pointer (some ⟨b, 0, none⟩), .bool true] 77)).heap.size from Nat.le_trans Q.out.size ((Only.refl [] w5).alloc (.cells #[.int .u32 t, .pointer (some ⟨b, 0, none⟩), .bool true] 77)).size); have HB := hid (show Ob (w5.alloc (.cells #[.int .u32 t, .pointer (some ⟨b, 0, none⟩), .bool true] 77)) w5.heap.size 77 (Mb.enc ⟨t, some b, true⟩).toArray from Ob.new w5 77 #[.int .u32 t, .pointer (some ⟨b, 0, none⟩), .bool true])
    have HNe : Hid (v.ownBlock ≠ some w5.heap.size) := hid (fun h => by have := (own_lt HV.out _ h).2; omega)
    have HO := hid (HO.out.alloc (.cells #[.int .u32 t, .pointer (some ⟨b, 0, none⟩), .bool true] 77)); have D := hid (D.out.alloc (.cells #[.int .u32 t, .pointer (some ⟨b, 0, none⟩), .bool true] 77)); have o6 := (Only.refl [] w5).alloc (.cells #[.int .u32 t, .pointer (some ⟨b, 0, none⟩), .bool true] 77); have HV := hid (own_only_nil HV.out o6); have Q := hid (Q.out.trans o6)
    clear o6
    try simp only [Act.put, List.setIfInBounds_toArray, List.set_cons_zero, List.set_cons_succ]
    refine rgn.Walk.es ?_
    refine rgn.stepE rfl rfl (fun K hK => ?_)
    go_simp
    refine (ins1 _ base v M i w5.heap.size ⟨t, some b, true⟩ HV.out HB.out HNe.out (Nat.le_trans HBs.out Q.out.size) HI.out (by have := HL16.out; omega)).mono ?_
    rintro x w7 ⟨v7, rfl, hv7, hg7, hbk7⟩
    obtain ⟨A7, c7, e7, _, _, _, _, _, _⟩ := RdS.of_own hv7 (rws_one enc_one _)
    subst e7
    refine hK _ _ (AnyW.any _ _) ?_
    clear hK K
    have HO := hid (HO.out.grown hg7 (ob_own HO.out HV.out (by decide))); have D := hid (D.out.grown hg7 (ob_own D.out HV.out (by decide)))
    have Q := hid (show Only (g :: v.ownBlock.toList) w w7 from (Q.out.more (by simp)).of_grown hg7 (fun j hj => .inl (by rw [hj]; simp)))
    have HBk : Hid ((Value.slice A7 (M.length + 1) c7).ownBlock = v.ownBlock ∨ ∀ j, (Value.slice A7 (M.length + 1) c7).ownBlock = some j → w.heap.size ≤ j) := hid (hbk7.imp id (fun h j hj => Nat.le_trans (HSg.out) (h j hj)))
    have HV := hid hv7
    clear hv7 hg7 hbk7 HB HNe
    try simp only [Act.put, List.setIfInBounds_toArray, List.set_cons_zero, List.set_cons_succ]
    refine rgn.Walk.ys (v := ?_) rfl rfl rfl ?_ ?_
    rotate_left 1
    · intro W' hW'
      go_simp
      try with_reducible rfl
    try simp only [Act.put, List.setIfInBounds_toArray, List.set_cons_zero, List.set_cons_succ]
    refine rgn.Walk.ys (v := ?_) rfl rfl rfl ?_ ?_
    rotate_left 1
    · intro W' hW'
      go_simp
      try with_reducible rfl
    try simp only [Act.put, List.setIfInBounds_toArray, List.set_cons_zero, List.set_cons_succ]
    refine rgn.Walk.es ?_
    refine rgn.stepE rfl rfl (fun K hK => ?_)
    have qq := HO.out.cell 0; have ff := HO.out.frozen 0
    go_simp
    refine hK _ _ (AnyW.any _ _) ?_
    clear hK K qq ff
    have HVn := hid (own_only HV.out ((Only.refl [g] w7).setCell (p := ⟨g, 0, none⟩) (Or.inl (by simp)) (.slice A7 (M.length + 1) c7)) (fun j hj hm => by rw [show j = g from by simpa using hm] at hj; exact ob_own HO.out HV.out (by decide) hj))
    have D := hid (D.out.far (p := ⟨g, 0, none⟩) (fun h => ob_ne D.out HO.out (by decide) h) (.slice A7 (M.length + 1) c7))
    have HO := hid (HO.out.set 0 (.slice A7 (M.length + 1) c7)); have Q := hid (Q.out.setCell (p := ⟨g, 0, none⟩) (Or.inl (by simp)) (.slice A7 (M.length + 1) c7))
    have HV := HVn
    clear HVn
    try simp only [Act.put, List.setIfInBounds_toArray, List.set_cons_zero, List.set_cons_succ]
    refine rgn.Walk.zs (NoPanic.normal ?_)
    go_wp2_with fail
    go_ret2
    have D' := D.out
    have e10 : (max (10 : Int) 1).toNat = 10 := by decide
    rw [e10] at D'
    try unfold JoinE
    rw [HSi.out, HVV.out]
    exact ⟨_, _, b, rfl, ob_new_set _ _ _ _ _, Nat.le_trans Q.out.size (Nat.le_of_eq (setCell_size _ _ _)), HO.out.alloc _, own_only_nil HV.out ((Only.refl [] _).alloc _), D'.alloc _, HS.out, Q.out.alloc _, HBk.out⟩
  · refine rgn.stepE rfl rfl (fun K hK => ?_)
    go_simp
    refine (delayed1 _ now draw 10 i hnow hdr (by omega) (by omega)).mono ?_
    rintro x w5 ⟨b, rfl, hb5, o5, hs5⟩
    refine hK _ _ (AnyW.any _ _) ?_
    clear hK K
    have HO := hid (HO.out.only o5 (by simp)); have HV := hid (own_only_nil HV.out o5); have D := hid hb5; have HS := hid (Nat.le_trans Q.out.size hs5); have Q := hid (Q.out.trans o5)
    clear hb5 o5 hs5
    try simp only [Act.put, List.setIfInBounds_toArray, List.set_cons_zero, List.set_cons_succ]
    refine rgn.Walk.ys (v := ?_) rfl rfl rfl ?_ ?_
    rotate_left 1
    · intro W' hW'
      go_simp
      try with_reducible rfl
    try simp only [Act.put, List.setIfInBounds_toArray, List.set_cons_zero, List.set_cons_succ]
    refine rgn.Walk.bs ?_ ?_
    · refine rgn.stepE rfl rfl (fun K hK => ?_)
      have qq := HO.out.cell 0
      go_simp
      refine hK _ _ (AnyW.any _ _) ?_
      clear hK K qq
      try simp only [Act.put, List.setIfInBounds_toArray, List.set_cons_zero, List.set_cons_succ]
      refine rgn.Walk.es ?_
      refine rgn.stepE rfl rfl (fun K hK => ?_)
      go_simp
      refine hK _ _ (AnyW.any _ _) ?_
      clear hK K
      have HSg := hid (show w.heap.size ≤ (w5.alloc (.cells #[.int .u32 t, .pointer (some ⟨b, 0, none⟩), .bool true] 77)).heap.size from Nat.le_trans Q.out.size ((Only.refl [] w5).alloc (.cells #[.int .u32 t, .pointer (some ⟨b, 0, none⟩), .bool true] 77)).size); have HB := hid (show Ob (w5.alloc (.cells #[.int .u32 t, .pointer (some ⟨b, 0, none⟩), .bool true] 77)) w5.heap.size 77 (Mb.enc ⟨t, some b, true⟩).toArray from Ob.new w5 77 #[.int .u32 t, .pointer (some ⟨b, 0, none⟩), .bool true])
      have HNe : Hid (v.ownBlock ≠ some w5.heap.size) := hid (fun h => by have := (own_lt HV.out _ h).2; omega)
      have HO := hid (HO.out.alloc (.cells #[.int .u32 t, .pointer (some ⟨b, 0, none⟩), .bool true] 77)); have D := hid (D.out.alloc (.cells #[.int .u32 t, .pointer (some ⟨b, 0, none⟩), .bool true] 77)); have o6 := (Only.refl [] w5).alloc (.cells #[.int .u32 t, .pointer (some ⟨b, 0, none⟩), .bool true] 77); have HV := hid (own_only_nil HV.out o6); have Q := hid (Q.out.trans o6)
      clear o6
      try simp only [Act.put, List.setIfInBounds_toArray, List.set_cons_zero, List.set_cons_succ]
      refine rgn.Walk.es ?_
      refine rgn.stepE rfl rfl (fun K hK => ?_)
      go_simp
      refine (ins1 _ base v M i w5.heap.size ⟨t, some b, true⟩ HV.out HB.out HNe.out (Nat.le_trans HBs.out Q.out.size) HI.out (by have := HL16.out; omega)).mono ?_
      rintro x w7 ⟨v7, rfl, hv7, hg7, hbk7⟩
      obtain ⟨A7, c7, e7, _, _, _, _, _, _⟩ := RdS.of_own hv7 (rws_one enc_one _)
      subst e7
      refine hK _ _ (AnyW.any _ _) ?_
      clear hK K
      have HO := hid (HO.out.grown hg7 (ob_own HO.out HV.out (by decide))); have D := hid (D.out.grown hg7 (ob_own D.out HV.out (by decide)))
      have Q := hid (show Only (g :: v.ownBlock.toList) w w7 from (Q.out.more (by simp)).of_grown hg7 (fun j hj => .inl (by rw [hj]; simp)))
      have HBk : Hid ((Value.slice A7 (M.length + 1) c7).ownBlock = v.ownBlock ∨ ∀ j, (Value.slice A7 (M.length + 1) c7).ownBlock = some j → w.heap.size ≤ j) := hid (hbk7.imp id (fun h j hj => Nat.le_trans (HSg.out) (h j hj)))
      have HV := hid hv7
      clear hv7 hg7 hbk7 HB HNe
      try simp only [Act.put, List.setIfInBounds_toArray, List.set_cons_zero, List.set_cons_succ]
      refine rgn.Walk.ys (v := ?_) rfl rfl rfl ?_ ?_
      rotate_left 1
      · intro W' hW'
        go_simp
        try with_reducible rfl
      try simp only [Act.put, List.setIfInBounds_toArray, List.set_cons_zero, List.set_cons_succ]
      refine rgn.Walk.ys (v := ?_) rfl rfl rfl ?_ ?_
      rotate_left 1
      · intro W' hW'
        go_simp
        try with_reducible rfl
      try simp only [Act.put, List.setIfInBounds_toArray, List.set_cons_zero, List.set_cons_succ]
      refine rgn.Walk.es ?_
      refine rgn.stepE rfl rfl (fun K hK => ?_)
      have qq := HO.out.cell 0; have ff := HO.out.frozen 0
      go_simp
      refine hK _ _ (AnyW.any _ _) ?_
      clear hK K qq ff
      have HVn := hid (own_only HV.out ((Only.refl [g] w7).setCell (p := ⟨g, 0, none⟩) (Or.inl (by simp)) (.slice A7 (M.length + 1) c7)) (fun j hj hm => by rw [show j = g from by simpa using hm] at hj; exact ob_own HO.out HV.out (by decide) hj))
      have D := hid (D.out.far (p := ⟨g, 0, none⟩) (fun h => ob_ne D.out HO.out (by decide) h) (.slice A7 (M.length + 1) c7))
      have HO := hid (HO.out.set 0 (.slice A7 (M.length + 1) c7)); have Q := hid (Q.out.setCell (p := ⟨g, 0, none⟩) (Or.inl (by simp)) (.slice A7 (M.length + 1) c7))
      have HV := HVn
      clear HVn
      try simp only [Act.put, List.setIfInBounds_toArray, List.set_cons_zero, List.set_cons_succ]
      refine rgn.Walk.zs (NoPanic.normal ?_)
      go_wp2_with fail
      go_ret2
      have D' := D.out
      have e10 : (max (10 : Int) 1).toNat = 10 := by decide
      rw [e10] at D'
      try unfold JoinE
      rw [HSi.out, HVV.out]
      exact ⟨_, _, b, rfl, ob_new_set _ _ _ _ _, Nat.le_trans Q.out.size (Nat.le_of_eq (setCell_size _ _ _)), HO.out.alloc _, own_only_nil HV.out ((Only.refl [] _).alloc _), D'.alloc _, HS.out, Q.out.alloc _, HBk.out⟩
    · refine rgn.stepE rfl rfl (fun K hK => ?_)
      go_simp
      refine hK _ _ (AnyW.any _ _) ?_
      clear hK K
      have HSg := hid (show w.heap.size ≤ (w5.alloc (.cells #[.int .u32 t, .pointer (some ⟨b, 0, none⟩), .bool true] 77)).heap.size from Nat.le_trans Q.out.size ((Only.refl [] w5).alloc (.cells #[.int .u32 t, .pointer (some ⟨b, 0, none⟩), .bool true] 77)).size); have HB := hid (show Ob (w5.alloc (.cells #[.int .u32 t, .pointer (some ⟨b, 0, none⟩), .bool true] 77)) w5.heap.size 77 (Mb.enc ⟨t, some b, true⟩).toArray from Ob.new w5 77 #[.int .u32 t, .pointer (some ⟨b, 0, none⟩), .bool true])
      have HNe : Hid (v.ownBlock ≠ some w5.heap.size) := hid (fun h => by have := (own_lt HV.out _ h).2; omega)
      have HO := hid (HO.out.alloc (.cells #[.int .u32 t, .pointer (some ⟨b, 0, none⟩), .bool true] 77)); have D := hid (D.out.alloc (.cells #[.int .u32 t, .pointer (some ⟨b, 0, none⟩), .bool true] 77)); have o6 := (Only.refl [] w5).alloc (.cells #[.int .u32 t, .pointer (some ⟨b, 0, none⟩), .bool true] 77); have HV := hid (own_only_nil HV.out o6); have Q := hid (Q.out.trans o6)
      clear o6
      try simp only [Act.put, List.setIfInBounds_toArray, List.set_cons_zero, List.set_cons_succ]
      refine rgn.Walk.es ?_
      refine rgn.stepE rfl rfl (fun K hK => ?_)
      have qq := HO.out.cell 0
      go_simp
      refine hK _ _ (AnyW.any _ _) ?_
      clear hK K qq
      try simp only [Act.put, List.setIfInBounds_toArray, List.set_cons_zero, List.set_cons_succ]
      refine rgn.Walk.es ?_
      refine rgn.stepE rfl rfl (fun K hK => ?_)
      go_simp
      refine (ins1 _ base v M i w5.heap.size ⟨t, some b, true⟩ HV.out HB.out HNe.out (Nat.le_trans HBs.out Q.out.size) HI.out (by have := HL16.out; omega)).mono ?_
      rintro x w7 ⟨v7, rfl, hv7, hg7, hbk7⟩
      obtain ⟨A7, c7, e7, _, _, _, _, _, _⟩ := RdS.of_own hv7 (rws_one enc_one _)
      subst e7
      refine hK _ _ (AnyW.any _ _) ?_
      clear hK K
      have HO := hid (HO.out.grown hg7 (ob_own HO.out HV.out (by decide))); have D := hid (D.out.grown hg7 (ob_own D.out HV.out (by decide)))
      have Q := hid (show Only (g :: v.ownBlock.toList) w w7 from (Q.out.more (by simp)).of_grown hg7 (fun j hj => .inl (by rw [hj]; simp)))
      have HBk : Hid ((Value.slice A7 (M.length + 1) c7).ownBlock = v.ownBlock ∨ ∀ j, (Value.slice A7 (M.length + 1) c7).ownBlock = some j → w.heap.size ≤ j) := hid (hbk7.imp id (fun h j hj => Nat.le_trans (HSg.out) (h j hj)))
      have HV := hid hv7
      clear hv7 hg7 hbk7 HB HNe
      try simp only [Act.put, List.setIfInBounds_toArray, List.set_cons_zero, List.set_cons_succ]
      refine rgn.Walk.ys (v := ?_) rfl rfl rfl ?_ ?_
      rotate_left 1
      · intro W' hW'
        go_simp
        try with_reducible rfl
      try simp only [Act.put, List.setIfInBounds_toArray, List.set_cons_zero, List.set_cons_succ]
      refine rgn.Walk.ys (v := ?_) rfl rfl rfl ?_ ?_
      rotate_left 1
      · intro W' hW'
        go_simp
        try with_reducible rfl
      try simp only [Act.put, List.setIfInBounds_toArray, List.set_cons_zero, List.set_cons_succ]
      refine rgn.Walk.es ?_
      refine rgn.stepE rfl rfl (fun K hK => ?_)
      have qq := HO.out.cell 0; have ff := HO.out.frozen 0
      go_simp
      refine hK _ _ (AnyW.any _ _) ?_
      clear hK K qq ff
      have HVn := hid (own_only HV.out ((Only.refl [g] w7).setCell (p := ⟨g, 0, none⟩) (Or.inl (by simp)) (.slice A7 (M.length + 1) c7)) (fun j hj hm => by rw [show j = g from by simpa using hm] at hj; exact ob_own HO.out HV.out (by decide) hj))
      have D := hid (D.out.far (p := ⟨g, 0, none⟩) (fun h => ob_ne D.out HO.out (by decide) h) (.slice A7 (M.length + 1) c7))
      have HO := hid (HO.out.set 0 (.slice A7 (M.length + 1) c7)); have Q := hid (Q.out.setCell (p := ⟨g, 0, none⟩) (Or.inl (by simp)) (.slice A7 (M.length + 1) c7))
      have HV := HVn
      clear HVn
      try simp only [Act.put, List.setIfInBounds_toArray, List.set_cons_zero, List.set_cons_succ]
      refine rgn.Walk.zs (NoPanic.normal ?_)
      go_wp2_with fail
      go_ret2
      have D' := D.out
      have e10 : (max (10 : Int) 1).toNat = 10 := by decide
      rw [e10] at D'
      try unfold JoinE
      rw [HSi.out, HVV.out]
      exact ⟨_, _, b, rfl, ob_new_set _ _ _ _ _, Nat.le_trans Q.out.size (Nat.le_of_eq (setCell_size _ _ _)), HO.out.alloc _, own_only_nil HV.out ((Only.refl [] _).alloc _), D'.alloc _, HS.out, Q.out.alloc _, HBk.out⟩
end Go.Proofs.Ytodcjokafjdhdaa.igm
