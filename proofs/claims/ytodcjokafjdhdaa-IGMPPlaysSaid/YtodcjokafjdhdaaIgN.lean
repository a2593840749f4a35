/-
  Chapter 10 (igmp): the document's Hear, by a walk of its text. Conditions: none but those typed.
-/
import Derived.Test.YtodcjokafjdhdaaIgM
namespace Go.Proofs.Ytodcjokafjdhdaa.igm
set_option linter.unusedVariables false
set_option linter.unusedSimpArgs false
open Go.ChangeShapes Go.WideShapes Go.ChangeAt Go.RowKit Go.IntWalk Go.Lib
theorem dsplit {X : List Dm} {S : List Gm} {f : Nat → Gm → Gm} {k : Nat} (h : k < S.length) (e : X.map Dm.ab = (S.mapIdx f).take k ++ S.drop k) : ∃ P m R, X = P ++ m :: R ∧ P.length = k ∧ ∀ m' : Dm, m'.ab = f k m.ab → (P ++ m' :: R).map Dm.ab = (S.mapIdx f).take (k + 1) ++ S.drop (k + 1) := by
  have hXl : X.length = S.length := by
    have := congrArg List.length e
    rw [List.length_map, List.length_append, List.length_take, List.length_mapIdx, List.length_drop] at this
    omega
  have hk : k < X.length := by omega
  have hl : ((S.mapIdx f).take k).length = k := by simp; omega
  have e1 : (X.map Dm.ab).take k = (S.mapIdx f).take k := by rw [e, List.take_append_of_le_length (by omega), List.take_of_length_le (by omega)]
  have e2 : (X.map Dm.ab).drop k = S.drop k := by rw [e, List.drop_append_of_le_length (by omega), List.drop_of_length_le (by omega), List.nil_append]
  rw [List.drop_eq_getElem_cons h, List.drop_eq_getElem_cons (by simpa using hk)] at e2
  injection e2 with e3 e4
  rw [List.getElem_map] at e3
  refine ⟨X.take k, X[k], X.drop (k + 1), by rw [← List.drop_eq_getElem_cons hk, List.take_append_drop], by rw [List.length_take]; omega, fun m' hm => ?_⟩
  rw [take_succ_idx f h, List.map_append, List.map_cons, List.map_take, List.map_drop, e1, e4, hm, e3]
theorem dfin {S : List Gm} {f : Nat → Gm → Gm} {n : Nat} (h : S.length = n) : (S.mapIdx f).take n ++ S.drop n = S.mapIdx f := by
  rw [List.take_of_length_le (by rw [List.length_mapIdx]; omega), List.drop_of_length_le (by omega), List.append_nil]
theorem qry_set {grp mo now draw la : Int} {k : Nat} {m : Dm} (hc : ¬ (grp ≠ 0 ∧ grp ≠ m.g)) (hla : laterZ now (dly draw.toNat k mo.toNat : Nat) = la) (h : m.t = false ∨ la < m.at_) : (⟨m.g, true, la, m.o⟩ : Dm).ab = qry grp mo now draw k m.ab := by
  obtain ⟨g, t, a, o⟩ := m
  unfold qry
  rw [if_neg (show ¬ (grp ≠ 0 ∧ grp ≠ (Dm.ab ⟨g, t, a, o⟩).g) from hc)]
  cases t with
  | false => simp [Dm.ab, hla]
  | true =>
    have h2 : la < a := by simpa using h
    simp [Dm.ab, hla, h2]
theorem qry_keep {grp mo now draw la : Int} {k : Nat} {m : Dm} (hc : ¬ (grp ≠ 0 ∧ grp ≠ m.g)) (hla : laterZ now (dly draw.toNat k mo.toNat : Nat) = la) (ht : m.t = true) (h : ¬ la < m.at_) : m.ab = qry grp mo now draw k m.ab := by
  obtain ⟨g, t, a, o⟩ := m
  unfold qry
  rw [if_neg (show ¬ (grp ≠ 0 ∧ grp ≠ (Dm.ab ⟨g, t, a, o⟩).g) from hc)]
  simp only at ht h
  subst ht
  simp [Dm.ab, hla, h]
theorem qry_off {grp mo now draw : Int} {k : Nat} {m : Dm} (h0 : grp ≠ 0) (h1 : grp ≠ m.g) : m.ab = qry grp mo now draw k m.ab := by
  unfold qry
  rw [if_pos ⟨h0, h1⟩]
def HearDE (B g : Nat) (v : Value) (S' : List Gm) (w : World) (x : Ending) (w' : World) : Prop := x = .returned (.tuple #[]) ∧ ∃ D', DStp w B g v w' v D' ∧ D'.map Dm.ab = S'
theorem hearDB (w : World) (B g : Nat) (v : Value) (D : List Dm) (ty mx grp now draw : Int) (h : DI w B g v D) (hb : badM ty mx) :
    Calls Try.prog 38 #[.pointer (some ⟨g, 0, none⟩), .agg #[.int .i64 ty, .int .i64 mx, .int .u32 grp], .int .i64 now, .int .i64 draw] w (HearDE B g v (D.map Dm.ab) w) := by
  have H := hid h; clear h
  obtain ⟨W0, hW0⟩ : ∃ W0, w.alloc (.cells #[.int .i64 ty, .int .i64 mx, .int .u32 grp] 25) = W0 := ⟨_, rfl⟩
  have OB : Hid (Ob W0 w.heap.size 25 #[.int .i64 ty, .int .i64 mx, .int .u32 grp]) := hid (by rw [← hW0]; exact Ob.new _ _ _)
  have Q0 : Hid (Only [] w W0) := hid (by rw [← hW0]; exact (Only.refl [] w).alloc _)
  have HBD := hid hb; clear hb
  have g0 := OB.out.cell 0; have g1 := OB.out.cell 1; have g2 := OB.out.cell 2
  go_enter Try.func38, Try.ntmps38
  go_wp2_with fail
  refine (encDB W0 ty mx grp HBD.out).mono ?_
  rintro x w2 ⟨⟨A1, n1, c1, rfl⟩, o2⟩
  have Q2 := hid (Q0.out.trans o2)
  clear o2 g0 g1 g2
  go_wp2_with fail
  refine bodyPost_end (results_none rfl _ _ _) rfl ?_
  exact ⟨rfl, D, H.out.same Q2.out, rfl⟩
set_option maxRecDepth 100000 in
set_option maxHeartbeats 8000000 in
theorem hearDN (w : World) (B g : Nat) (v : Value) (D : List Dm) (ty mx grp now draw : Int) (h : DI w B g v D) (hl : D.length ≤ 16) (hmx : 0 ≤ mx ∧ mx ≤ 255) (h17 : ty ≠ 17) (h22 : ty ≠ 22) (hty : 0 ≤ ty ∧ ty ≤ 255) (hnow : 0 ≤ now ∧ now ≤ 9223372036854775807) (hdr : draw ≤ 9223372036854775807) :
    Calls Try.prog 38 #[.pointer (some ⟨g, 0, none⟩), .agg #[.int .i64 ty, .int .i64 mx, .int .u32 grp], .int .i64 now, .int .i64 draw] w (HearDE B g v ((D.map Dm.ab)) w) := by
  have z17 : (ty == 17) = false := by simpa using h17
  have z22 : (ty == 22) = false := by simpa using h22
  clear h17 h22
  obtain ⟨A, c, ev, -, -, -, -, -, -⟩ := RdS.of_own h.own (rws_one dnc_one _)
  subst ev
  obtain ⟨n, hn⟩ : ∃ n, D.length = n := ⟨_, rfl⟩
  obtain ⟨S, hS⟩ : ∃ S, D.map Dm.ab = S := ⟨_, rfl⟩
  have HSL : Hid (S.length = n) := hid (by rw [← hS, List.length_map]; exact hn)
  rw [hn] at h hl ⊢
  rw [hS]
  have H := hid h; have HSe := hid hS
  have HFF : Hid (S = S.mapIdx (fun _ s => s)) := hid (by rw [eq_comm, List.mapIdx_eq_iff]; intro i; simp)
  rw [HFF.out]
  clear h hn hS
  obtain ⟨W0, hW0⟩ : ∃ W0, w.alloc (.cells #[.int .i64 ty, .int .i64 mx, .int .u32 grp] 25) = W0 := ⟨_, rfl⟩
  have OB : Hid (Ob W0 w.heap.size 25 #[.int .i64 ty, .int .i64 mx, .int .u32 grp]) := hid (by rw [← hW0]; exact Ob.new _ _ _)
  have Q0 : Hid (Only [] w W0) := hid (by rw [← hW0]; exact (Only.refl [] w).alloc _)
  have g0 := OB.out.cell 0; have g1 := OB.out.cell 1; have g2 := OB.out.cell 2
  go_enter Try.func38, Try.ntmps38
  go_wp2_with fail
  refine (encD W0 ty mx grp (by omega) hmx).mono ?_
  rintro x w2 ⟨⟨A1, n1, c1, rfl⟩, o2⟩
  have OB2 := hid (OB.out.only o2 (by simp)); have H2 := hid (H.out.nil (Q0.out.trans o2)); have Q2 := hid (Q0.out.trans o2)
  clear o2 g0 g1 g2
  go_wp2_with fail
  go_loopw [10, 11, 12] (fun i _ _ wr => ∃ (k : Nat), i = .int .i64 k ∧ k ≤ n ∧ Hid (∃ X, DI wr B g (.slice A n c) X ∧ X.map Dm.ab = (S.mapIdx (fun _ s => s)).take k ++ S.drop k) ∧ Hid (Ob wr w.heap.size 25 #[.int .i64 ty, .int .i64 mx, .int .u32 grp]) ∧ Hid (Only (Value.slice A n c).ownBlock.toList w wr)) (fun i _ _ _ => n - (RowKit.intOf i).toNat)
  case atStart => exact ⟨0, rfl, by omega, hid ⟨D, H2.out, by rw [HSe.out]; simp⟩, OB2, hid (Q2.out.more (by simp))⟩
  case round =>
    obtain ⟨k, rfl, hk, HX, OBr, HQ⟩ := hrel
    obtain ⟨X, hX, eX⟩ := HX.out
    have k0 := hX.ob.cell 0
    by_cases hkn : k < n
    · have HSK : Hid (k < S.length) := hid (by rw [HSL.out]; exact hkn)
      obtain ⟨P, m, R, rfl, hP, hnx⟩ := dsplit HSK.out eX
      obtain ⟨gb, rfl⟩ : ∃ gb, A = some ⟨gb, 0, none⟩ := by
        obtain ⟨gb, c9, e9⟩ := hX.form (by simp)
        injection e9 with e9 _ _
        exact ⟨gb, e9⟩
      have HGB : Hid (gb < w.heap.size) := hid (own_lt H.out.own gb rfl).2
      obtain ⟨tg, tt, ta, tl⟩ := m
      have HP := hid hP; have HNXT := hid hnx; have HDX := hid hX
      clear hP hnx hX eX HX
      have hkI : (k : Int) < (n : Int) := by omega
      go_wp2_with fail
      refine wp_region_noPanic ?_
      refine rgn.regionT (R := Only []) (by kernel_rfl) (Only.refl []) (fun _ _ _ => Only.trans) (fun _ _ _ _ _ h => h) (.y 0 (.y 1 (.y 2 (.y 3 (.y 4 (.y 5 (.y 6 (.y 7 (.y 8 (.y 9 (.y 10 (.y 11 (.y 12 (.y 13 (.y 14 (.y 15 (.y 16 (.y 17 (.y 18 (.y 19 (.y 20 (.e 21 .z)))))))))))))))))))))) (by kernel_rfl) (fun W hWd => ?_)
      have HWd := hid hWd; clear hWd
      have q8 : Only [] wr W := Only.eq_drew (Only.refl [] _) HWd.out
      have HDW := hid (HDX.out.nil q8)
      have OBW := hid (OBr.out.only q8 (by simp))
      have QW := hid (HQ.out.trans (q8.more (by simp)))
      clear q8 HWd
      obtain ⟨c0, c1, c2, c3, f1, f2, f3⟩ := HDW.out.cells HP.out
      have HC0 := hid c0; have HC1 := hid c1; have HC2 := hid c2
      clear c0 c1 c2 c3 f1 f2 f3
      refine rgn.Walk.ys (v := ?_) rfl rfl rfl ?_ ?_
      rotate_left 1
      · intro W' hW'
        go_simp
        try with_reducible rfl
      try simp only [Act.put, List.setIfInBounds_toArray, List.set_cons_zero, List.set_cons_succ]
      refine rgn.Walk.ys (v := ?_) rfl rfl rfl ?_ ?_
      rotate_left 1
      · intro W' hW'
        have q0 := (OBW.out.only hW' (by simp)).cell 0
        go_simp
        try with_reducible rfl
      try simp only [Act.put, List.setIfInBounds_toArray, List.set_cons_zero, List.set_cons_succ]
      refine rgn.Walk.ys (v := ?_) rfl rfl rfl ?_ ?_
      rotate_left 1
      · intro W' hW'
        go_simp
        try with_reducible rfl
      try simp only [Act.put, List.setIfInBounds_toArray, List.set_cons_zero, List.set_cons_succ]
      refine rgn.Walk.ys (v := ?_) rfl rfl rfl ?_ ?_
      rotate_left 1
      · intro W' hW'
        go_simp
        try with_reducible rfl
      try simp only [Act.put, List.setIfInBounds_toArray, List.set_cons_zero, List.set_cons_succ]
      refine rgn.Walk.yn rfl rfl rfl ?_
      try simp only [Act.put, List.setIfInBounds_toArray, List.set_cons_zero, List.set_cons_succ]
      refine rgn.Walk.yn rfl rfl rfl ?_
      try simp only [Act.put, List.setIfInBounds_toArray, List.set_cons_zero, List.set_cons_succ]
      refine rgn.Walk.yn rfl rfl rfl ?_
      try simp only [Act.put, List.setIfInBounds_toArray, List.set_cons_zero, List.set_cons_succ]
      refine rgn.Walk.yn rfl rfl rfl ?_
      try simp only [Act.put, List.setIfInBounds_toArray, List.set_cons_zero, List.set_cons_succ]
      refine rgn.Walk.yn rfl rfl rfl ?_
      try simp only [Act.put, List.setIfInBounds_toArray, List.set_cons_zero, List.set_cons_succ]
      refine rgn.Walk.yn rfl rfl rfl ?_
      try simp only [Act.put, List.setIfInBounds_toArray, List.set_cons_zero, List.set_cons_succ]
      refine rgn.Walk.yn rfl rfl rfl ?_
      try simp only [Act.put, List.setIfInBounds_toArray, List.set_cons_zero, List.set_cons_succ]
      refine rgn.Walk.yn rfl rfl rfl ?_
      try simp only [Act.put, List.setIfInBounds_toArray, List.set_cons_zero, List.set_cons_succ]
      refine rgn.Walk.yn rfl rfl rfl ?_
      try simp only [Act.put, List.setIfInBounds_toArray, List.set_cons_zero, List.set_cons_succ]
      refine rgn.Walk.yn rfl rfl rfl ?_
      try simp only [Act.put, List.setIfInBounds_toArray, List.set_cons_zero, List.set_cons_succ]
      refine rgn.Walk.yn rfl rfl rfl ?_
      try simp only [Act.put, List.setIfInBounds_toArray, List.set_cons_zero, List.set_cons_succ]
      refine rgn.Walk.yn rfl rfl rfl ?_
      try simp only [Act.put, List.setIfInBounds_toArray, List.set_cons_zero, List.set_cons_succ]
      refine rgn.Walk.yn rfl rfl rfl ?_
      try simp only [Act.put, List.setIfInBounds_toArray, List.set_cons_zero, List.set_cons_succ]
      refine rgn.Walk.yn rfl rfl rfl ?_
      try simp only [Act.put, List.setIfInBounds_toArray, List.set_cons_zero, List.set_cons_succ]
      refine rgn.Walk.yn rfl rfl rfl ?_
      try simp only [Act.put, List.setIfInBounds_toArray, List.set_cons_zero, List.set_cons_succ]
      refine rgn.Walk.yn rfl rfl rfl ?_
      try simp only [Act.put, List.setIfInBounds_toArray, List.set_cons_zero, List.set_cons_succ]
      refine rgn.Walk.ys (v := ?_) rfl rfl rfl ?_ ?_
      rotate_left 1
      · intro W' hW'
        go_simp
        try with_reducible rfl
      try simp only [Act.put, List.setIfInBounds_toArray, List.set_cons_zero, List.set_cons_succ]
      refine rgn.Walk.es ?_
      refine rgn.stepE rfl rfl (fun K hK => ?_)
      go_simp
      refine hK _ _ ((Only.refl []) _) ?_
      clear hK K
      try simp only [Act.put, List.setIfInBounds_toArray, List.set_cons_zero, List.set_cons_succ]
      refine rgn.Walk.zs (NoPanic.normal ?_)
      go_wp2_with fail
      refine wp_region_noPanic ?_
      refine rgn.regionT (R := Only []) (by kernel_rfl) (Only.refl []) (fun _ _ _ => Only.trans) (fun _ _ _ _ _ h => h) (.y 0 (.y 1 (.y 2 (.y 3 (.y 4 (.y 5 (.y 6 (.y 7 (.y 8 (.y 9 (.y 10 (.y 11 (.y 12 (.y 13 (.y 14 (.y 15 (.y 16 (.y 17 (.y 18 (.y 19 (.y 20 (.y 21 (.y 22 (.y 23 (.y 24 (.y 25 (.e 26 .z))))))))))))))))))))))))))) (by kernel_rfl) (fun V hWd => ?_)
      have HWd := hid hWd; clear hWd
      have q8 : Only [] W V := Only.eq_drew (Only.refl [] _) HWd.out
      have HDV := hid (HDW.out.nil q8)
      have OBV := hid (OBW.out.only q8 (by simp))
      have QV := hid (QW.out.trans (q8.more (by simp)))
      clear q8 HWd
      obtain ⟨c0, c1, c2, c3, f1, f2, f3⟩ := HDV.out.cells HP.out
      have HE0 := hid c0; have HE1 := hid c1
      clear c0 c1 c2 c3 f1 f2 f3
      refine rgn.Walk.ys (v := ?_) rfl rfl rfl ?_ ?_
      rotate_left 1
      · intro W' hW'
        go_simp
        try with_reducible rfl
      try simp only [Act.put, List.setIfInBounds_toArray, List.set_cons_zero, List.set_cons_succ]
      refine rgn.Walk.ys (v := ?_) rfl rfl rfl ?_ ?_
      rotate_left 1
      · intro W' hW'
        have q0 := (OBV.out.only hW' (by simp)).cell 0
        go_simp
        try with_reducible rfl
      try simp only [Act.put, List.setIfInBounds_toArray, List.set_cons_zero, List.set_cons_succ]
      refine rgn.Walk.ys (v := ?_) rfl rfl rfl ?_ ?_
      rotate_left 1
      · intro W' hW'
        go_simp
        try with_reducible rfl
      try simp only [Act.put, List.setIfInBounds_toArray, List.set_cons_zero, List.set_cons_succ]
      refine rgn.Walk.ys (v := ?_) rfl rfl rfl ?_ ?_
      rotate_left 1
      · intro W' hW'
        go_simp
        try with_reducible rfl
      try simp only [Act.put, List.setIfInBounds_toArray, List.set_cons_zero, List.set_cons_succ]
      refine rgn.Walk.yn rfl rfl rfl ?_
      try simp only [Act.put, List.setIfInBounds_toArray, List.set_cons_zero, List.set_cons_succ]
      refine rgn.Walk.yn rfl rfl rfl ?_
      try simp only [Act.put, List.setIfInBounds_toArray, List.set_cons_zero, List.set_cons_succ]
      refine rgn.Walk.yn rfl rfl rfl ?_
      try simp only [Act.put, List.setIfInBounds_toArray, List.set_cons_zero, List.set_cons_succ]
      refine rgn.Walk.yn rfl rfl rfl ?_
      try simp only [Act.put, List.setIfInBounds_toArray, List.set_cons_zero, List.set_cons_succ]
      refine rgn.Walk.yn rfl rfl rfl ?_
      try simp only [Act.put, List.setIfInBounds_toArray, List.set_cons_zero, List.set_cons_succ]
      refine rgn.Walk.yn rfl rfl rfl ?_
      try simp only [Act.put, List.setIfInBounds_toArray, List.set_cons_zero, List.set_cons_succ]
      refine rgn.Walk.yn rfl rfl rfl ?_
      try simp only [Act.put, List.setIfInBounds_toArray, List.set_cons_zero, List.set_cons_succ]
      refine rgn.Walk.yn rfl rfl rfl ?_
      try simp only [Act.put, List.setIfInBounds_toArray, List.set_cons_zero, List.set_cons_succ]
      refine rgn.Walk.yn rfl rfl rfl ?_
      try simp only [Act.put, List.setIfInBounds_toArray, List.set_cons_zero, List.set_cons_succ]
      refine rgn.Walk.yn rfl rfl rfl ?_
      try simp only [Act.put, List.setIfInBounds_toArray, List.set_cons_zero, List.set_cons_succ]
      refine rgn.Walk.yn rfl rfl rfl ?_
      try simp only [Act.put, List.setIfInBounds_toArray, List.set_cons_zero, List.set_cons_succ]
      refine rgn.Walk.ys (v := ?_) rfl rfl rfl ?_ ?_
      rotate_left 1
      · intro W' hW'
        go_simp
        try with_reducible rfl
      try simp only [Act.put, List.setIfInBounds_toArray, List.set_cons_zero, List.set_cons_succ]
      refine rgn.Walk.ys (v := ?_) rfl rfl rfl ?_ ?_
      rotate_left 1
      · intro W' hW'
        go_simp
        try with_reducible rfl
      try simp only [Act.put, List.setIfInBounds_toArray, List.set_cons_zero, List.set_cons_succ]
      refine rgn.Walk.yn rfl rfl rfl ?_
      try simp only [Act.put, List.setIfInBounds_toArray, List.set_cons_zero, List.set_cons_succ]
      refine rgn.Walk.yn rfl rfl rfl ?_
      try simp only [Act.put, List.setIfInBounds_toArray, List.set_cons_zero, List.set_cons_succ]
      refine rgn.Walk.yn rfl rfl rfl ?_
      try simp only [Act.put, List.setIfInBounds_toArray, List.set_cons_zero, List.set_cons_succ]
      refine rgn.Walk.yn rfl rfl rfl ?_
      try simp only [Act.put, List.setIfInBounds_toArray, List.set_cons_zero, List.set_cons_succ]
      refine rgn.Walk.yn rfl rfl rfl ?_
      try simp only [Act.put, List.setIfInBounds_toArray, List.set_cons_zero, List.set_cons_succ]
      refine rgn.Walk.yn rfl rfl rfl ?_
      try simp only [Act.put, List.setIfInBounds_toArray, List.set_cons_zero, List.set_cons_succ]
      refine rgn.Walk.yn rfl rfl rfl ?_
      try simp only [Act.put, List.setIfInBounds_toArray, List.set_cons_zero, List.set_cons_succ]
      refine rgn.Walk.yn rfl rfl rfl ?_
      try simp only [Act.put, List.setIfInBounds_toArray, List.set_cons_zero, List.set_cons_succ]
      refine rgn.Walk.ys (v := ?_) rfl rfl rfl ?_ ?_
      rotate_left 1
      · intro W' hW'
        go_simp
        try with_reducible rfl
      try simp only [Act.put, List.setIfInBounds_toArray, List.set_cons_zero, List.set_cons_succ]
      refine rgn.Walk.es ?_
      refine rgn.stepE rfl rfl (fun K hK => ?_)
      go_simp
      refine hK _ _ ((Only.refl []) _) ?_
      clear hK K
      try simp only [Act.put, List.setIfInBounds_toArray, List.set_cons_zero, List.set_cons_succ]
      refine rgn.Walk.zs (NoPanic.normal ?_)
      go_wp2_with fail
      have HNX := hid (HNXT.out ⟨tg, tt, ta, tl⟩ rfl)
      go_roundw
      case rel => exact ⟨k + 1, by first | rfl | go_num, by omega, hid ⟨_, HDV.out, HNX.out⟩, OBV, QV⟩
      case measure => simp [RowKit.intOf]; omega
    · obtain rfl : k = n := by omega
      have HDX := hid hX; have HEX := hid eX
      clear hX eX HX
      go_wp2_with fail
      refine bodyPost_end (results_none rfl _ _ _) rfl ?_
      refine ⟨rfl, X, ⟨HDX.out, .inl rfl, HQ.out.more (fun j hj => List.mem_cons_of_mem _ hj)⟩, ?_⟩
      rw [HEX.out]; exact dfin HSL.out
end Go.Proofs.Ytodcjokafjdhdaa.igm
