/-
  Chapter 10 (igmp): a message's bytes are written; a Host hears a Query, by a walk of each text. Conditions: none but those typed.
-/
import Derived.Test.YtodcjokafjdhdaaIgD
import Derived.Test.YtodcjokafjdhdaaWrt
import Derived.Test.YtodcjokafjdhdaaSum
namespace Go.Proofs.Ytodcjokafjdhdaa.igm
set_option linter.unusedVariables false
set_option linter.unusedSimpArgs false
open Go.ChangeShapes Go.WideShapes Go.ChangeAt Go.RowKit Go.IntWalk Go.Lib
def ByE (w : World) (x : Ending) (w' : World) : Prop := ∃ v l, x = .returned v ∧ Own .u8 5 w' w.heap.size v l ∧ l.length ≤ 100 ∧ Only [] w w'
set_option maxRecDepth 100000 in
set_option maxHeartbeats 4000000 in
theorem write1 (w : World) (ty mx grp s : Int) : Calls Try.prog 26 #[.agg #[.int .i64 ty, .int .i64 mx, .int .u32 grp], .int .i64 s] w (ByE w) := by
  have OB : Hid (Ob ((w.alloc (.cells #[.int .i64 ty, .int .i64 mx, .int .u32 grp] 25)).alloc (.cells #[.slice none 0 0] 91)) w.heap.size 25 #[.int .i64 ty, .int .i64 mx, .int .u32 grp]) := hid ((Ob.new _ _ _).alloc _)
  have Q1 : Hid (Only [] w (w.alloc (.cells #[.int .i64 ty, .int .i64 mx, .int .u32 grp] 25))) := hid ((Only.refl [] w).alloc _)
  have hbs : w.heap.size < w.heap.size + 1 := by omega
  have W : Hid (wrt.Wr ((w.alloc (.cells #[.int .i64 ty, .int .i64 mx, .int .u32 grp] 25)).alloc (.cells #[.slice none 0 0] 91)) (w.heap.size + 1) (w.heap.size + 1) (.slice none 0 0) []) := hid ⟨by simpa using Ob.new (w.alloc (.cells #[.int .i64 ty, .int .i64 mx, .int .u32 grp] 25)) _ _, Own.nil _ _ _ _, Nat.le_refl _⟩
  have B : Hid (Below (w.heap.size + 1) (w.alloc (.cells #[.int .i64 ty, .int .i64 mx, .int .u32 grp] 25)) ((w.alloc (.cells #[.int .i64 ty, .int .i64 mx, .int .u32 grp] 25)).alloc (.cells #[.slice none 0 0] 91))) := hid ((Below.refl _ _).alloc (by simp) _)
  have k0 := OB.out.cell 0; have k1 := OB.out.cell 1; have k2 := OB.out.cell 2
  go_enter Try.func26, Try.ntmps26
  go_wp2_with fail
  clear k0 k1 k2
  refine (wrt.byte1 _ _ _ _ _ ty W.out (by simp; try omega)).mono ?_
  rintro x w2 ⟨rfl, b2, v2, h2⟩
  have OB := hid (Ob.below OB.out b2 hbs); have B := hid (B.out.trans b2); have W := hid h2; clear b2 h2
  have k0 := OB.out.cell 0; have k1 := OB.out.cell 1; have k2 := OB.out.cell 2
  go_wp2_with fail
  clear k0 k1 k2
  refine (wrt.byte1 _ _ _ _ _ mx W.out (by simp; try omega)).mono ?_
  rintro x w3 ⟨rfl, b3, v3, h3⟩
  have OB := hid (Ob.below OB.out b3 hbs); have B := hid (B.out.trans b3); have W := hid h3; clear b3 h3
  have k0 := OB.out.cell 0; have k1 := OB.out.cell 1; have k2 := OB.out.cell 2
  go_wp2_with fail
  clear k0 k1 k2
  refine (wrt.two1 _ _ _ _ _ s W.out (by simp; try omega)).mono ?_
  rintro x w4 ⟨rfl, b4, v4, h4⟩
  have OB := hid (Ob.below OB.out b4 hbs); have B := hid (B.out.trans b4); have W := hid h4; clear b4 h4
  have k0 := OB.out.cell 0; have k1 := OB.out.cell 1; have k2 := OB.out.cell 2
  go_wp2_with fail
  clear k0 k1 k2
  refine (wrt.four1 _ _ _ _ _ grp W.out (by simp; try omega)).mono ?_
  rintro x w5 ⟨rfl, b5, v5, h5⟩
  have OB := hid (Ob.below OB.out b5 hbs); have B := hid (B.out.trans b5); have W := hid h5; clear b5 h5
  go_wp2_with fail
  refine (wrt.bytes1 _ _ _ _ _ W.out (by simp; try omega)).mono ?_
  rintro x w20 ⟨v20, rfl, hv, o20⟩
  have V := hid hv; have Q := hid (only_below' Q1.out B.out (by simp))
  have Q2 := hid (Q.out.trans o20); have hq := Q.out.size
  obtain ⟨A20, cap20, ev20, _, _, _, _⟩ := hv.slice
  clear hv o20
  subst ev20
  go_wp2
  go_ret
  exact ⟨_, _, rfl, Own.mono_base V.out hq, by simp, Q2.out⟩
def EncH (e : Int) (w : World) (x : Ending) (w' : World) : Prop := (∃ A n c, x = .returned (.tuple #[.slice A n c, .int .i64 e])) ∧ Only [] w w'
set_option maxRecDepth 100000 in
set_option maxHeartbeats 4000000 in
theorem encOK (w : World) (ty mx grp : Int) (h1 : 0 ≤ ty ∧ ty ≤ 255) (h2 : 0 ≤ mx ∧ mx ≤ 255) : Calls Try.prog 9 #[.agg #[.int .i64 ty, .int .i64 mx, .int .u32 grp]] w (EncH 0 w) := by
  obtain ⟨W0, hW0⟩ : ∃ W0, w.alloc (.cells #[.int .i64 ty, .int .i64 mx, .int .u32 grp] 25) = W0 := ⟨_, rfl⟩
  have OB : Hid (Ob W0 w.heap.size 25 #[.int .i64 ty, .int .i64 mx, .int .u32 grp]) := hid (by rw [← hW0]; exact Ob.new _ _ _)
  have Q0 : Hid (Only [] w W0) := hid (by rw [← hW0]; exact (Only.refl [] w).alloc _)
  have g0 := OB.out.cell 0; have g1 := OB.out.cell 1; have g2 := OB.out.cell 2
  go_enter Try.func9, Try.ntmps9
  go_wp2_with fail
  clear g0 g1 g2
  refine wp_region_noPanic ?_
  refine rgn.regionT (R := Only []) (by kernel_rfl) (Only.refl []) (fun _ _ _ => Only.trans) (fun _ _ _ _ _ h => h) (.y 0 (.y 1 (.e 2 (.e 3 (.e 4 (.e 5 (.e 6 .z))))))) (by kernel_rfl) (fun W hWd => ?_)
  have HWd := hid hWd; clear hWd
  have q8 : Only [] W0 W := Only.eq_drew (Only.refl [] _) HWd.out
  have OBW := hid (OB.out.only q8 (by simp)); have QW := hid (Q0.out.trans q8)
  clear q8 HWd
  refine rgn.Walk.ys (v := ?_) rfl rfl rfl ?_ ?_
  rotate_left 1
  · intro W' hW'
    have q0 := hW'.keep (OBW.out.cell 0)
    have q1 := hW'.keep (OBW.out.cell 1)
    have q2 := hW'.keep (OBW.out.cell 2)
    go_simp
    try with_reducible rfl
  try simp only [Act.put, List.setIfInBounds_toArray, List.set_cons_zero, List.set_cons_succ]
  refine rgn.Walk.ys (v := ?_) rfl rfl rfl ?_ ?_
  rotate_left 1
  · intro W' hW'
    have q0 := hW'.keep (OBW.out.cell 0)
    have q1 := hW'.keep (OBW.out.cell 1)
    have q2 := hW'.keep (OBW.out.cell 2)
    go_simp
    try with_reducible rfl
  try simp only [Act.put, List.setIfInBounds_toArray, List.set_cons_zero, List.set_cons_succ]
  refine rgn.Walk.es ?_
  refine rgn.stepE rfl rfl (fun K hK => ?_)
  go_simp
  refine (write1 W ty mx grp 0).mono ?_
  rintro x w3 ⟨v3, l3, rfl, hv3, hl3, o3⟩
  obtain ⟨A3, c3, e3, _, _, _, _⟩ := hv3.slice
  subst e3
  refine hK _ _ o3 ?_
  clear hK K
  have R3 := hid hv3.rd; have HL3 := hid hl3; have Q3 := hid (QW.out.trans o3)
  clear hv3 o3 hl3
  try simp only [Act.put, List.setIfInBounds_toArray, List.set_cons_zero, List.set_cons_succ]
  refine rgn.Walk.es ?_
  refine rgn.stepE rfl rfl (fun K hK => ?_)
  go_simp
  refine (oct.sum1 w3 A3 l3.length c3 l3 R3.out (by have := HL3.out; omega)).mono ?_
  rintro x w4 ⟨rfl, m4, rfl⟩
  refine hK _ _ ((Only.refl [] w3).drewN m4) ?_
  clear hK K
  have Q4 := hid (Q3.out.drewN m4)
  generalize oct.sumF l3 = sm
  try simp only [Act.put, List.setIfInBounds_toArray, List.set_cons_zero, List.set_cons_succ]
  refine rgn.Walk.es ?_
  refine rgn.stepE rfl rfl (fun K hK => ?_)
  go_simp
  refine (write1 _ ty mx grp sm).mono ?_
  rintro x w5 ⟨v5, l5, rfl, hv5, hl5, o5⟩
  obtain ⟨A5, c5, e5, _, _, _, _⟩ := hv5.slice
  subst e5
  refine hK _ _ o5 ?_
  clear hK K
  have Q5 := hid (Q4.out.trans o5)
  clear hv5 o5 hl5
  try simp only [Act.put, List.setIfInBounds_toArray, List.set_cons_zero, List.set_cons_succ]
  refine rgn.Walk.es ?_
  refine rgn.stepE rfl rfl (fun K hK => ?_)
  go_simp
  refine hK _ _ ((Only.refl []) _) ?_
  clear hK K
  try simp only [Act.put, List.setIfInBounds_toArray, List.set_cons_zero, List.set_cons_succ]
  refine rgn.Walk.es ?_
  refine rgn.stepE rfl rfl (fun K hK => ?_)
  go_simp
  refine hK _ _ ((Only.refl []) _) ?_
  clear hK K
  try simp only [Act.put, List.setIfInBounds_toArray, List.set_cons_zero, List.set_cons_succ]
  refine rgn.Walk.zs (NoPanic.normal ?_)
  go_wp2_with fail
  go_ret2
  exact ⟨⟨_, _, _, rfl⟩, Q5.out⟩
/-- A group behind a Query. -/
def qry (grp mo now draw : Int) (i : Nat) (s : Gm) : Gm := if grp ≠ 0 ∧ grp ≠ s.g then s else match s.d with
  | none => ⟨s.g, some (laterZ now (dly draw.toNat i mo.toNat : Nat)), s.o⟩
  | some x => if laterZ now (dly draw.toNat i mo.toNat : Nat) < x then ⟨s.g, some (laterZ now (dly draw.toNat i mo.toNat : Nat)), s.o⟩ else s
def queryS (grp mo now draw : Int) (S : List Gm) : List Gm := S.mapIdx (qry grp mo now draw)
theorem qry_g (grp mo now draw : Int) (i : Nat) (s : Gm) : (qry grp mo now draw i s).g = s.g := by
  unfold qry
  split
  · rfl
  · split
    · rfl
    · split <;> rfl
theorem enc_set1 : ∀ (X : List Mb) (m : Mb) (R : List Mb) (b : Nat), (rws Mb.enc (X ++ m :: R)).set (X.length * 3 + 1) (.pointer (some ⟨b, 0, none⟩)) = rws Mb.enc (X ++ ⟨m.g, some b, m.o⟩ :: R)
  | [], m, R, b => by simp [rws, Mb.enc]
  | a :: X, m, R, b => by
    have ih := enc_set1 X m R b
    show ((.int .u32 a.g :: .pointer (a.p.map fun b => ⟨b, 0, none⟩) :: .bool a.o :: rws Mb.enc (X ++ m :: R)).set ((X.length + 1) * 3 + 1) (.pointer (some ⟨b, 0, none⟩))) = .int .u32 a.g :: .pointer (a.p.map fun b => ⟨b, 0, none⟩) :: .bool a.o :: rws Mb.enc (X ++ ⟨m.g, some b, m.o⟩ :: R)
    rw [show (X.length + 1) * 3 + 1 = X.length * 3 + 1 + 1 + 1 + 1 from by omega]
    simp only [List.set_cons_succ]
    rw [ih]
/-- What the loop of query keeps: of S the first k were asked. -/
def QI (w0 wr : World) (B : Nat) (v : Value) (M : List Mb) (dz : Nat → Int) (f : Nat → Gm → Gm) (k : Nat) : Prop :=
  ∃ M' dz', wr.ownsRow B 77 3 v M'.length (rws Mb.enc M') ∧ Dues wr dz' M' ∧ M'.map (Mb.ab dz') = ((M.map (Mb.ab dz)).mapIdx f).take k ++ (M.map (Mb.ab dz)).drop k ∧ (∀ b ∈ M'.filterMap (·.p), b ∈ M.filterMap (·.p) ∨ w0.heap.size ≤ b) ∧ M'.length = M.length ∧ Only v.ownBlock.toList w0 wr
theorem take_succ_idx {S : List Gm} (f : Nat → Gm → Gm) {k : Nat} (h : k < S.length) : (S.mapIdx f).take (k + 1) ++ S.drop (k + 1) = (S.mapIdx f).take k ++ f k S[k] :: S.drop (k + 1) := by
  rw [List.take_succ_eq_append_getElem (by simpa using h), List.append_assoc]
  simp
theorem ab_split {M' : List Mb} {dz' : Nat → Int} {S : List Gm} {f : Nat → Gm → Gm} {k : Nat} (h : k < S.length) (e : M'.map (Mb.ab dz') = (S.mapIdx f).take k ++ S.drop k) (hk : k < M'.length) : (M'[k]).ab dz' = S[k] ∧ (M'.take k).map (Mb.ab dz') = (S.mapIdx f).take k ∧ (M'.drop (k + 1)).map (Mb.ab dz') = S.drop (k + 1) := by
  have hl : ((S.mapIdx f).take k).length = k := by simp; omega
  have e1 : (M'.map (Mb.ab dz')).take k = (S.mapIdx f).take k := by rw [e, List.take_append_of_le_length (by omega), List.take_of_length_le (by omega)]
  have e2 : (M'.map (Mb.ab dz')).drop k = S.drop k := by rw [e, List.drop_append_of_le_length (by omega), List.drop_of_length_le (by omega), List.nil_append]
  rw [List.drop_eq_getElem_cons h, List.drop_eq_getElem_cons (by simpa using hk)] at e2
  injection e2 with e3 e4
  refine ⟨by simpa using e3, by rw [List.map_take]; exact e1, by rw [List.map_drop]; exact e4⟩
/-- Nothing turns at a group. -/
theorem QI.skip {w0 wr w' : World} {B : Nat} {v : Value} {M : List Mb} {dz : Nat → Int} {f : Nat → Gm → Gm} {k : Nat} (h : QI w0 wr B v M dz f k) (o : Only [] wr w') (hk : k < M.length) (hf : f k ((M.map (Mb.ab dz))[k]'(by simpa using hk)) = (M.map (Mb.ab dz))[k]'(by simpa using hk)) : QI w0 w' B v M dz f (k + 1) := by
  obtain ⟨M', dz', h1, h2, h3, h4, h5, h6⟩ := h
  refine ⟨M', dz', own_only_nil h1 o, fun m hm b hb => (h2 m hm b hb).only o (by simp), ?_, h4, h5, h6.trans (o.more (by simp))⟩
  rw [h3, take_succ_idx f (by simpa using hk), hf, ← List.drop_eq_getElem_cons]
/-- A group's timer is set. -/
theorem QI.put {w0 wr w5 w' : World} {B gb n c : Nat} {M M' : List Mb} {dz dz' : Nat → Int} {f : Nat → Gm → Gm} {k b : Nat} {D : Int} (hw : w5.setCell ⟨gb, k * 3 + 1, none⟩ (.pointer (some ⟨b, 0, none⟩)) = w') (hk : k < M.length) (h1 : wr.ownsRow B 77 3 (.slice (some ⟨gb, 0, none⟩) n c) M'.length (rws Mb.enc M')) (h2 : Dues wr dz' M') (h3 : M'.map (Mb.ab dz') = ((M.map (Mb.ab dz)).mapIdx f).take k ++ (M.map (Mb.ab dz)).drop k) (h4 : ∀ b ∈ M'.filterMap (·.p), b ∈ M.filterMap (·.p) ∨ w0.heap.size ≤ b) (h5 : M'.length = M.length) (h6 : Only [gb] w0 wr)
    (o5 : Only [] wr w5) (hb : Ob w5 b 3 #[.int .i64 D]) (hbl : wr.heap.size ≤ b) (hf : f k ((M.map (Mb.ab dz))[k]'(by simpa using hk)) = ⟨(M'[k]'(by omega)).g, some D, (M'[k]'(by omega)).o⟩) : QI w0 w' B (.slice (some ⟨gb, 0, none⟩) n c) M dz f (k + 1) := by
  obtain ⟨_, _, ev, _, _, _, _, _, _⟩ := RdS.of_own h1 (rws_one enc_one _)
  injection ev with _ e2 _
  subst e2
  have hkm : k < M'.length := by omega
  obtain ⟨a1, a2, a3⟩ := ab_split (by simpa using hk) h3 hkm
  have hM : M' = M'.take k ++ M'[k] :: M'.drop (k + 1) := by rw [← List.drop_eq_getElem_cons hkm, List.take_append_drop]
  have hlk : (M'.take k).length = k := by rw [List.length_take]; omega
  have h15 := own_only_nil h1 o5
  have hst := (World.ownsRow.stored h15 (k * 3 + 1) (.pointer (some ⟨b, 0, none⟩))).1
  have hes := enc_set1 (M'.take k) M'[k] (M'.drop (k + 1)) b
  rw [hlk, ← hM] at hes
  rw [hes, hw] at hst
  have hll : (M'.take k ++ (⟨M'[k].g, some b, M'[k].o⟩ : Mb) :: M'.drop (k + 1)).length = M'.length := by
    rw [List.length_append, List.length_cons, List.length_drop, hlk]; omega
  have hmem : ∀ m ∈ M'.take k ++ (⟨M'[k].g, some b, M'[k].o⟩ : Mb) :: M'.drop (k + 1), m = ⟨M'[k].g, some b, M'[k].o⟩ ∨ m ∈ M' := fun m hm => by
    rcases List.mem_append.1 hm with hm | hm
    · exact .inr (List.mem_of_mem_take hm)
    · rcases List.mem_cons.1 hm with hm | hm
      · exact .inl hm
      · exact .inr (List.mem_of_mem_drop hm)
  have hq : ∀ m ∈ M', ∀ q, m.p = some q → q ≠ b := fun m hm q hq => by
    have := (h2 m hm q hq).lt; omega
  have hgb : gb ≠ b := by have := (own_lt h1 gb rfl).2; omega
  have oS : Only [gb] w5 w' := by rw [← hw]; exact (Only.refl [gb] w5).setCell (p := ⟨gb, k * 3 + 1, none⟩) (Or.inl (by simp)) _
  refine ⟨_, fun x => if x = b then D else dz' x, by rw [hll]; exact hst, fun m hm q hq2 => ?_, ?_, fun x hx => ?_, by rw [hll]; exact h5, (h6.trans (o5.more (by simp))).trans oS⟩
  · rcases hmem m hm with rfl | hm
    · injection hq2 with hq2
      subst hq2
      show Ob w' b _ #[.int .i64 (if b = b then _ else _)]
      rw [if_pos rfl]
      exact hb.only oS (by simpa using hgb.symm)
    · show Ob w' q _ #[.int .i64 (if q = b then _ else _)]
      rw [if_neg (hq m hm q hq2)]
      exact ((h2 m hm q hq2).only o5 (by simp)).only oS (fun hm2 => ob_own (h2 m hm q hq2) h1 (by decide) (by rw [show q = gb from by simpa using hm2]; rfl))
  · have hc : ∀ L : List Mb, (∀ m ∈ L, m ∈ M') → L.map (Mb.ab fun x => if x = b then D else dz' x) = L.map (Mb.ab dz') := fun L hL => List.map_congr_left fun m hm => by
      have h9 := hq m (hL m hm)
      obtain ⟨mg, mp, mo⟩ := m
      cases mp with
      | none => rfl
      | some q => simp [Mb.ab, h9 q rfl]
    rw [List.map_append, List.map_cons, hc _ (fun m hm => List.mem_of_mem_take hm), hc _ (fun m hm => List.mem_of_mem_drop hm), a2, a3, take_succ_idx f (by simpa using hk), hf]
    simp [Mb.ab]
  · obtain ⟨m, hm, hp⟩ := List.mem_filterMap.1 hx
    rcases hmem m hm with rfl | hm
    · injection hp with hp
      have := h6.size
      exact .inr (by omega)
    · exact h4 x (List.mem_filterMap.2 ⟨m, hm, hp⟩)
def QueE (B g : Nat) (v : Value) (M : List Mb) (dz : Nat → Int) (grp mo now draw : Int) (w : World) (x : Ending) (w' : World) : Prop := x = .returned (.tuple #[]) ∧ Ob w' g 46 #[v] ∧ QI w w' B v M dz (qry grp mo now draw) M.length
set_option maxRecDepth 100000 in
set_option maxHeartbeats 8000000 in
theorem query1 (w : World) (B g : Nat) (v : Value) (M : List Mb) (dz : Nat → Int) (ty mx grp mo now draw : Int) (ho : Ob w g 46 #[v]) (hv : w.ownsRow B 77 3 v M.length (rws Mb.enc M)) (hD : Dues w dz M) (hlen : M.length ≤ 16) (hmx : 0 ≤ mx ∧ mx ≤ 255) (hmo : mo = if mx = 0 then 100 else mx) (hnow : -9223372036854775808 ≤ now ∧ now ≤ 9223372036854775807) (hdr : draw ≤ 9223372036854775807) :
    Calls Try.prog 43 #[.pointer (some ⟨g, 0, none⟩), .agg #[.int .i64 ty, .int .i64 mx, .int .u32 grp], .int .i64 now, .int .i64 draw] w (QueE B g v M dz grp mo now draw w) := by
  obtain ⟨A, c, ev, -, -, -, -, -, hfa⟩ := RdS.of_own hv (rws_one enc_one _)
  subst ev
  obtain ⟨n, hn⟩ : ∃ n, M.length = n := ⟨_, rfl⟩
  have HNm := hid hn
  have hmo1 : 1 ≤ mo ∧ mo ≤ 255 := by rw [hmo]; split <;> omega
  obtain ⟨W0, hW0⟩ : ∃ W0, w.alloc (.cells #[.int .i64 ty, .int .i64 mx, .int .u32 grp] 25) = W0 := ⟨_, rfl⟩
  have OB : Hid (Ob W0 w.heap.size 25 #[.int .i64 ty, .int .i64 mx, .int .u32 grp]) := hid (by rw [← hW0]; exact Ob.new _ _ _)
  have Q0 : Only [] w W0 := by rw [← hW0]; exact (Only.refl [] w).alloc _
  have HO0 := hid (ho.only Q0 (by simp))
  have HFA := hid hfa
  have HQ0 : Hid (QI w W0 B (.slice A M.length c) M dz (qry grp mo now draw) 0) := hid ⟨M, dz, own_only_nil hv Q0, fun m hm b hb => (hD m hm b hb).only Q0 (by simp), by simp, fun b hb => .inl hb, rfl, Q0.more (by simp)⟩
  have HNB : Hid ((Value.slice A M.length c).ownBlock ≠ some w.heap.size) := hid (fun e => by have := (own_lt hv _ e).2; omega)
  have HNG : Hid (g < w.heap.size) := hid ho.lt
  have HNV : Hid ((Value.slice A M.length c).ownBlock ≠ some g) := hid (ob_own ho hv (by decide))
  have HMO := hid hmo
  have k0 := HO0.out.cell 0
  have g1 := OB.out.cell 1
  unfold QueE
  rw [hn] at k0 HO0 HQ0 HNB HNV hlen ⊢
  clear ho hv hD hfa Q0 hn hmo
  by_cases hm0 : mx = 0
  · subst hm0
    obtain rfl : mo = 100 := by simpa using HMO.out
    go_enter Try.func43, Try.ntmps43
    go_wp2_with fail
    clear k0 g1
    go_loopw [21, 9, 10, 11] (fun i _ _ _ wr => ∃ k : Nat, k ≤ n ∧ i = .int .i64 k ∧ Hid (QI w wr B (.slice A n c) M dz (qry grp 100 now draw) k) ∧ Hid (Ob wr g 46 #[.slice A n c]) ∧ Hid (Ob wr w.heap.size 25 #[.int .i64 ty, .int .i64 0, .int .u32 grp])) (fun i _ _ _ _ => n - (RowKit.intOf i).toNat)
    case atStart => exact ⟨0, by omega, rfl, HQ0, HO0, OB⟩
    case round =>
      clear HQ0 HO0 OB
      obtain ⟨k, hk, rfl, HQ, HO, OB⟩ := hrel
      by_cases hlt : k < n
      · obtain ⟨M', dz', h1, h2, h3, h4, h5, h6⟩ := HQ.out
        obtain ⟨gb, rfl⟩ : ∃ gb, A = some ⟨gb, 0, none⟩ := by
          rcases HFA.out with h | h
          · exfalso
            rcases h1.2 with ⟨h9, h8⟩ | ⟨p, cap, cur, h9, _⟩
            · have := HNm.out; omega
            · rw [h] at h9; cases h9
          · exact h
        have h6b : Only [gb] w wr := h6
        have hkm : k < M'.length := by rw [h5, HNm.out]; exact hlt
        have hkM : k < M.length := by rw [HNm.out]; exact hlt
        obtain ⟨a1, _, _⟩ := ab_split (by simpa using hkM) h3 hkm
        obtain ⟨mm, hmm⟩ : ∃ mm, M'[k] = mm := ⟨_, rfl⟩
        have hM : M' = M'.take k ++ mm :: M'.drop (k + 1) := by rw [← hmm, ← List.drop_eq_getElem_cons hkm, List.take_append_drop]
        have hlk : (M'.take k).length = k := by rw [List.length_take]; omega
        obtain ⟨_, cx, ev, -, -, -, hr, -, -⟩ := RdS.of_own h1 (rws_one enc_one _)
        injection ev with ev1 ev2 ev3; clear ev2; subst ev3; subst ev1
        rw [hM] at hr
        obtain ⟨c0, c1, c2⟩ := mid_cell hr (by rw [← hM]) hlk
        have H1 := hid h1; have H2 := hid h2; have H3 := hid h3; have H4 := hid h4; have H5 := hid h5; have H6 := hid h6b; have HKM := hid hkm; have HKK := hid hkM
        obtain ⟨cur, hcur, hcs⟩ : ∃ cur, Ob wr gb 77 cur ∧ n * 3 ≤ cur.size := by
          rcases h1.2 with ⟨h9, _⟩ | ⟨p, cap, cur, h9, _, hh, hnc, _, hs, _⟩
          · cases h9
          · injection h9 with e1 _ _; injection e1 with e1; injection e1 with e1; subst e1
            exact ⟨cur, hh, by rw [hs]; have := HNm.out; exact Nat.mul_le_mul_right _ (by omega)⟩
        have HCU := hid hcur
        have HA1 : Hid (mm.ab dz' = (M.map (Mb.ab dz))[k]'(by simpa using hkM)) := hid (by rw [← hmm]; exact a1)
        have HDu : Hid (∀ q, mm.p = some q → Ob wr q 3 #[.int .i64 (dz' q)]) := hid (fun q hq => h2 mm (by rw [← hmm]; exact List.getElem_mem hkm) q hq)
        have HMM := hid hmm
        obtain ⟨mg, mp, mo_⟩ := mm
        have HC0 : Hid (wr.cell? ⟨gb, k * 3, none⟩ = some (.int .u32 mg)) := hid c0
        have k0 := HO.out.cell 0
        clear h1 h2 h3 h4 h5 h6 h6b a1 hM hlk hr c0 c2 hmm hcur HQ
        go_wp2_with fail
        clear k0
        by_cases hg0 : grp = 0
        · have z1 : (grp != 0) = false := by simpa using hg0
          refine wp_region_noPanic ?_
          refine rgn.regionT (R := Only []) (by kernel_rfl) (Only.refl []) (fun _ _ _ => Only.trans) (fun _ _ _ _ _ h => h) (.y 0 (.y 1 (.y 2 (.y 3 (.y 4 (.y 5 (.y 6 (.y 7 (.y 8 (.y 9 (.y 10 (.y 11 .z)))))))))))) (by kernel_rfl) (fun W hWd => ?_)
          have HWd := hid hWd; clear hWd
          have q8 : Only [] wr W := Only.eq_drew (Only.refl [] _) HWd.out
          have OBW := hid (OB.out.only q8 (by simp)); have Q8 := hid q8
          clear q8 HWd
          refine rgn.Walk.ys (v := ?_) rfl rfl rfl ?_ ?_
          rotate_left 1
          · intro W' hW'
            go_simp
            try with_reducible rfl
          try simp only [Act.put, List.setIfInBounds_toArray, List.set_cons_zero, List.set_cons_succ]
          refine rgn.Walk.ys (v := ?_) rfl rfl rfl ?_ ?_
          rotate_left 1
          · intro W' hW'
            have q0 := hW'.keep (OBW.out.cell 2)
            go_simp
            try with_reducible rfl
          try simp only [Act.put, List.setIfInBounds_toArray, List.set_cons_zero, List.set_cons_succ]
          refine rgn.Walk.ys (v := ?_) rfl rfl rfl ?_ ?_
          rotate_left 1
          · intro W' hW'
            go_simp
            try with_reducible rfl
          try simp only [Act.put, List.setIfInBounds_toArray, List.set_cons_zero, List.set_cons_succ]
          refine rgn.Walk.ys (v := ?_) rfl rfl rfl ?_ ?_
          rotate_left 1
          · intro W' hW'
            go_simp
            try with_reducible rfl
          try simp only [Act.put, List.setIfInBounds_toArray, List.set_cons_zero, List.set_cons_succ]
          refine rgn.Walk.yn rfl rfl rfl ?_
          try simp only [Act.put, List.setIfInBounds_toArray, List.set_cons_zero, List.set_cons_succ]
          refine rgn.Walk.yn rfl rfl rfl ?_
          try simp only [Act.put, List.setIfInBounds_toArray, List.set_cons_zero, List.set_cons_succ]
          refine rgn.Walk.yn rfl rfl rfl ?_
          try simp only [Act.put, List.setIfInBounds_toArray, List.set_cons_zero, List.set_cons_succ]
          refine rgn.Walk.yn rfl rfl rfl ?_
          try simp only [Act.put, List.setIfInBounds_toArray, List.set_cons_zero, List.set_cons_succ]
          refine rgn.Walk.yn rfl rfl rfl ?_
          try simp only [Act.put, List.setIfInBounds_toArray, List.set_cons_zero, List.set_cons_succ]
          refine rgn.Walk.yn rfl rfl rfl ?_
          try simp only [Act.put, List.setIfInBounds_toArray, List.set_cons_zero, List.set_cons_succ]
          refine rgn.Walk.yn rfl rfl rfl ?_
          try simp only [Act.put, List.setIfInBounds_toArray, List.set_cons_zero, List.set_cons_succ]
          refine rgn.Walk.ys (v := ?_) rfl rfl rfl ?_ ?_
          rotate_left 1
          · intro W' hW'
            go_simp
            try with_reducible rfl
          try simp only [Act.put, List.setIfInBounds_toArray, List.set_cons_zero, List.set_cons_succ]
          refine rgn.Walk.zs (NoPanic.normal ?_)
          have HNC : Hid (¬ (grp ≠ 0 ∧ grp ≠ mg)) := hid (by first | omega | (have := HG1.out; omega))
          have HOW := hid (HO.out.only Q8.out (by simp)); have HCW := hid (HC0.out)
          have c1W := Q8.out.keep c1
          clear hg0 z1
          go_wp2_with fail
          refine (delayed1 W now draw 100 k hnow hdr (by omega) (by omega)).mono ?_
          rintro x w5 ⟨b, rfl, hb5, o5, hs5⟩
          rw [show (max (100 : Int) 1).toNat = (100 : Int).toNat from by omega] at hb5
          have Q5 := hid (Q8.out.trans o5); have OB5 := hid (OBW.out.only o5 (by simp)); have HO5 := hid (HOW.out.only o5 (by simp)); have HB5 := hid hb5; have HBL : Hid (wr.heap.size ≤ b) := hid (Nat.le_trans Q8.out.size hs5)
          obtain ⟨D, hD⟩ : ∃ D, laterZ now (dly draw.toNat k (100 : Int).toNat : Nat) = D := ⟨_, rfl⟩
          rw [hD] at HB5
          have HDD := hid hD
          have HC1 := hid (o5.keep c1W)
          clear c1W hb5 o5 hs5 hD
          go_wp2_with fail
          cases mp with
          | none =>
            refine wp_region_noPanic ?_
            refine rgn.regionT (R := Only []) (by kernel_rfl) (Only.refl []) (fun _ _ _ => Only.trans) (fun _ _ _ _ _ h => h) (.y 0 (.y 1 (.y 2 (.y 3 (.y 4 (.y 5 (.y 6 (.y 7 (.y 8 (.y 9 (.y 10 (.y 11 (.y 12 (.y 13 (.y 14 (.y 15 (.y 16 .z))))))))))))))))) (by kernel_rfl) (fun W2 hWd => ?_)
            have HWd := hid hWd; clear hWd
            have q9 : Only [] w5 W2 := Only.eq_drew (Only.refl [] _) HWd.out
            have Q9 := hid (Q5.out.trans q9); have HC9 := hid (q9.keep HC1.out); have HB9 := hid (HB5.out.only q9 (by simp)); have OB9 := hid (OB5.out.only q9 (by simp)); have HO9 := hid (HO5.out.only q9 (by simp))
            clear q9 HWd
            refine rgn.Walk.ys (v := ?_) rfl rfl rfl ?_ ?_
            rotate_left 1
            · intro W' hW'
              go_simp
              try with_reducible rfl
            try simp only [Act.put, List.setIfInBounds_toArray, List.set_cons_zero, List.set_cons_succ]
            refine rgn.Walk.ys (v := ?_) rfl rfl rfl ?_ ?_
            rotate_left 1
            · intro W' hW'
              go_simp
              try with_reducible rfl
            try simp only [Act.put, List.setIfInBounds_toArray, List.set_cons_zero, List.set_cons_succ]
            refine rgn.Walk.ys (v := ?_) rfl rfl rfl ?_ ?_
            rotate_left 1
            · intro W' hW'
              go_simp
              try with_reducible rfl
            try simp only [Act.put, List.setIfInBounds_toArray, List.set_cons_zero, List.set_cons_succ]
            refine rgn.Walk.ys (v := ?_) rfl rfl rfl ?_ ?_
            rotate_left 1
            · intro W' hW'
              have q0 := hW'.keep (show W2.cell? ⟨gb, k * 3 + 1, none⟩ = some (.pointer none) from HC9.out)
              go_simp
              try with_reducible rfl
            try simp only [Act.put, List.setIfInBounds_toArray, List.set_cons_zero, List.set_cons_succ]
            refine rgn.Walk.ys (v := ?_) rfl rfl rfl ?_ ?_
            rotate_left 1
            · intro W' hW'
              go_simp
              try with_reducible rfl
            try simp only [Act.put, List.setIfInBounds_toArray, List.set_cons_zero, List.set_cons_succ]
            refine rgn.Walk.ys (v := ?_) rfl rfl rfl ?_ ?_
            rotate_left 1
            · intro W' hW'
              go_simp
              try with_reducible rfl
            try simp only [Act.put, List.setIfInBounds_toArray, List.set_cons_zero, List.set_cons_succ]
            refine rgn.Walk.yn rfl rfl rfl ?_
            try simp only [Act.put, List.setIfInBounds_toArray, List.set_cons_zero, List.set_cons_succ]
            refine rgn.Walk.yn rfl rfl rfl ?_
            try simp only [Act.put, List.setIfInBounds_toArray, List.set_cons_zero, List.set_cons_succ]
            refine rgn.Walk.yn rfl rfl rfl ?_
            try simp only [Act.put, List.setIfInBounds_toArray, List.set_cons_zero, List.set_cons_succ]
            refine rgn.Walk.yn rfl rfl rfl ?_
            try simp only [Act.put, List.setIfInBounds_toArray, List.set_cons_zero, List.set_cons_succ]
            refine rgn.Walk.yn rfl rfl rfl ?_
            try simp only [Act.put, List.setIfInBounds_toArray, List.set_cons_zero, List.set_cons_succ]
            refine rgn.Walk.yn rfl rfl rfl ?_
            try simp only [Act.put, List.setIfInBounds_toArray, List.set_cons_zero, List.set_cons_succ]
            refine rgn.Walk.yn rfl rfl rfl ?_
            try simp only [Act.put, List.setIfInBounds_toArray, List.set_cons_zero, List.set_cons_succ]
            refine rgn.Walk.yn rfl rfl rfl ?_
            try simp only [Act.put, List.setIfInBounds_toArray, List.set_cons_zero, List.set_cons_succ]
            refine rgn.Walk.yn rfl rfl rfl ?_
            try simp only [Act.put, List.setIfInBounds_toArray, List.set_cons_zero, List.set_cons_succ]
            refine rgn.Walk.yn rfl rfl rfl ?_
            try simp only [Act.put, List.setIfInBounds_toArray, List.set_cons_zero, List.set_cons_succ]
            refine rgn.Walk.ys (v := ?_) rfl rfl rfl ?_ ?_
            rotate_left 1
            · intro W' hW'
              go_simp
              try with_reducible rfl
            try simp only [Act.put, List.setIfInBounds_toArray, List.set_cons_zero, List.set_cons_succ]
            refine rgn.Walk.zs (NoPanic.normal ?_)
            have kc := HC9.out
            have fc := (HCU.out.only Q9.out (by simp)).frozen (k * 3 + 1)
            obtain ⟨WS, hWS⟩ : ∃ WS, W2.setCell ⟨gb, k * 3 + 1, none⟩ (.pointer (some ⟨b, 0, none⟩)) = WS := ⟨_, rfl⟩
            have HF9 : Hid (qry grp 100 now draw k ((M.map (Mb.ab dz))[k]'(by simpa using HKK.out)) = ⟨(M'[k]'(by have := HKM.out; omega)).g, some D, (M'[k]'(by have := HKM.out; omega)).o⟩) := hid (by
              rw [← HA1.out, HMM.out]
              unfold qry Mb.ab
              rw [if_neg HNC.out]
              simp only [Option.map]
              rw [HDD.out])
            have HI2 : Hid (QI w WS B (.slice (some ⟨gb, 0, none⟩) n c) M dz (qry grp 100 now draw) (k + 1)) := hid (QI.put hWS HKK.out H1.out H2.out H3.out H4.out H5.out H6.out Q9.out HB9.out HBL.out HF9.out)
            have HO2 : Hid (Ob WS g 46 _) := hid (by rw [← hWS]; exact HO9.out.far (p := ⟨gb, k * 3 + 1, none⟩) (fun e => HNV.out (by rw [e]; rfl)) _)
            have OB2 : Hid (Ob WS w.heap.size 25 _) := hid (by rw [← hWS]; exact OB9.out.far (p := ⟨gb, k * 3 + 1, none⟩) (fun e => HNB.out (by rw [e]; rfl)) _)
            go_wp2_with fail
            go_roundw
            case rel => exact ⟨k + 1, by omega, by first | rfl | go_num, HI2, HO2, OB2⟩
            case measure => simp [RowKit.intOf]; omega
          | some q =>
            have HDq := hid (HDu.out q rfl)
            obtain ⟨X, hX⟩ : ∃ X, dz' q = X := ⟨_, rfl⟩
            have HX := hid hX
            rw [hX] at HDq
            clear hX
            by_cases hl : D < X
            · have zl : decide (D < X) = true := decide_eq_true hl
              refine wp_region_noPanic ?_
              refine rgn.regionT (R := Only []) (by kernel_rfl) (Only.refl []) (fun _ _ _ => Only.trans) (fun _ _ _ _ _ h => h) (.y 0 (.y 1 (.y 2 (.y 3 (.y 4 (.y 5 (.y 6 (.y 7 (.y 8 (.y 9 (.y 10 (.y 11 (.y 12 (.y 13 (.y 14 (.y 15 (.y 16 .z))))))))))))))))) (by kernel_rfl) (fun W2 hWd => ?_)
              have HWd := hid hWd; clear hWd
              have q9 : Only [] w5 W2 := Only.eq_drew (Only.refl [] _) HWd.out
              have Q9 := hid (Q5.out.trans q9); have HC9 := hid (q9.keep HC1.out); have HB9 := hid (HB5.out.only q9 (by simp)); have OB9 := hid (OB5.out.only q9 (by simp)); have HO9 := hid (HO5.out.only q9 (by simp))
              have HD9 := hid (HDq.out.only Q9.out (by simp))
              clear q9 HWd
              refine rgn.Walk.ys (v := ?_) rfl rfl rfl ?_ ?_
              rotate_left 1
              · intro W' hW'
                go_simp
                try with_reducible rfl
              try simp only [Act.put, List.setIfInBounds_toArray, List.set_cons_zero, List.set_cons_succ]
              refine rgn.Walk.ys (v := ?_) rfl rfl rfl ?_ ?_
              rotate_left 1
              · intro W' hW'
                go_simp
                try with_reducible rfl
              try simp only [Act.put, List.setIfInBounds_toArray, List.set_cons_zero, List.set_cons_succ]
              refine rgn.Walk.ys (v := ?_) rfl rfl rfl ?_ ?_
              rotate_left 1
              · intro W' hW'
                go_simp
                try with_reducible rfl
              try simp only [Act.put, List.setIfInBounds_toArray, List.set_cons_zero, List.set_cons_succ]
              refine rgn.Walk.ys (v := ?_) rfl rfl rfl ?_ ?_
              rotate_left 1
              · intro W' hW'
                have q0 := hW'.keep (show W2.cell? ⟨gb, k * 3 + 1, none⟩ = some (.pointer (some ⟨q, 0, none⟩)) from HC9.out)
                go_simp
                try with_reducible rfl
              try simp only [Act.put, List.setIfInBounds_toArray, List.set_cons_zero, List.set_cons_succ]
              refine rgn.Walk.ys (v := ?_) rfl rfl rfl ?_ ?_
              rotate_left 1
              · intro W' hW'
                go_simp
                try with_reducible rfl
              try simp only [Act.put, List.setIfInBounds_toArray, List.set_cons_zero, List.set_cons_succ]
              refine rgn.Walk.ys (v := ?_) rfl rfl rfl ?_ ?_
              rotate_left 1
              · intro W' hW'
                go_simp
                try with_reducible rfl
              try simp only [Act.put, List.setIfInBounds_toArray, List.set_cons_zero, List.set_cons_succ]
              refine rgn.Walk.ys (v := ?_) rfl rfl rfl ?_ ?_
              rotate_left 1
              · intro W' hW'
                go_simp
                try with_reducible rfl
              try simp only [Act.put, List.setIfInBounds_toArray, List.set_cons_zero, List.set_cons_succ]
              refine rgn.Walk.ys (v := ?_) rfl rfl rfl ?_ ?_
              rotate_left 1
              · intro W' hW'
                go_simp
                try with_reducible rfl
              try simp only [Act.put, List.setIfInBounds_toArray, List.set_cons_zero, List.set_cons_succ]
              refine rgn.Walk.ys (v := ?_) rfl rfl rfl ?_ ?_
              rotate_left 1
              · intro W' hW'
                go_simp
                try with_reducible rfl
              try simp only [Act.put, List.setIfInBounds_toArray, List.set_cons_zero, List.set_cons_succ]
              refine rgn.Walk.ys (v := ?_) rfl rfl rfl ?_ ?_
              rotate_left 1
              · intro W' hW'
                have q0 := hW'.keep (show W2.cell? ⟨gb, k * 3 + 1, none⟩ = some (.pointer (some ⟨q, 0, none⟩)) from HC9.out)
                go_simp
                try with_reducible rfl
              try simp only [Act.put, List.setIfInBounds_toArray, List.set_cons_zero, List.set_cons_succ]
              refine rgn.Walk.ys (v := ?_) rfl rfl rfl ?_ ?_
              rotate_left 1
              · intro W' hW'
                go_simp
                try with_reducible rfl
              try simp only [Act.put, List.setIfInBounds_toArray, List.set_cons_zero, List.set_cons_succ]
              refine rgn.Walk.ys (v := ?_) rfl rfl rfl ?_ ?_
              rotate_left 1
              · intro W' hW'
                have q0 := hW'.keep (HD9.out.cell 0)
                go_simp
                try with_reducible rfl
              try simp only [Act.put, List.setIfInBounds_toArray, List.set_cons_zero, List.set_cons_succ]
              refine rgn.Walk.ys (v := ?_) rfl rfl rfl ?_ ?_
              rotate_left 1
              · intro W' hW'
                go_simp
                try with_reducible rfl
              try simp only [Act.put, List.setIfInBounds_toArray, List.set_cons_zero, List.set_cons_succ]
              refine rgn.Walk.ys (v := ?_) rfl rfl rfl ?_ ?_
              rotate_left 1
              · intro W' hW'
                go_simp
                try with_reducible rfl
              try simp only [Act.put, List.setIfInBounds_toArray, List.set_cons_zero, List.set_cons_succ]
              refine rgn.Walk.ys (v := ?_) rfl rfl rfl ?_ ?_
              rotate_left 1
              · intro W' hW'
                have q0 := hW'.keep (HB9.out.cell 0)
                go_simp
                try with_reducible rfl
              try simp only [Act.put, List.setIfInBounds_toArray, List.set_cons_zero, List.set_cons_succ]
              refine rgn.Walk.ys (v := ?_) rfl rfl rfl ?_ ?_
              rotate_left 1
              · intro W' hW'
                have zz := zl
                go_simp
                try with_reducible rfl
              try simp only [Act.put, List.setIfInBounds_toArray, List.set_cons_zero, List.set_cons_succ]
              refine rgn.Walk.ys (v := ?_) rfl rfl rfl ?_ ?_
              rotate_left 1
              · intro W' hW'
                go_simp
                try with_reducible rfl
              try simp only [Act.put, List.setIfInBounds_toArray, List.set_cons_zero, List.set_cons_succ]
              refine rgn.Walk.zs (NoPanic.normal ?_)
              have kc := HC9.out
              have fc := (HCU.out.only Q9.out (by simp)).frozen (k * 3 + 1)
              obtain ⟨WS, hWS⟩ : ∃ WS, W2.setCell ⟨gb, k * 3 + 1, none⟩ (.pointer (some ⟨b, 0, none⟩)) = WS := ⟨_, rfl⟩
              have HF9 : Hid (qry grp 100 now draw k ((M.map (Mb.ab dz))[k]'(by simpa using HKK.out)) = ⟨(M'[k]'(by have := HKM.out; omega)).g, some D, (M'[k]'(by have := HKM.out; omega)).o⟩) := hid (by
                rw [← HA1.out, HMM.out]
                unfold qry Mb.ab
                rw [if_neg HNC.out]
                simp only [Option.map]
                rw [HDD.out, HX.out, if_pos hl])
              have HI2 : Hid (QI w WS B (.slice (some ⟨gb, 0, none⟩) n c) M dz (qry grp 100 now draw) (k + 1)) := hid (QI.put hWS HKK.out H1.out H2.out H3.out H4.out H5.out H6.out Q9.out HB9.out HBL.out HF9.out)
              have HO2 : Hid (Ob WS g 46 _) := hid (by rw [← hWS]; exact HO9.out.far (p := ⟨gb, k * 3 + 1, none⟩) (fun e => HNV.out (by rw [e]; rfl)) _)
              have OB2 : Hid (Ob WS w.heap.size 25 _) := hid (by rw [← hWS]; exact OB9.out.far (p := ⟨gb, k * 3 + 1, none⟩) (fun e => HNB.out (by rw [e]; rfl)) _)
              go_wp2_with fail
              go_roundw
              case rel => exact ⟨k + 1, by omega, by first | rfl | go_num, HI2, HO2, OB2⟩
              case measure => simp [RowKit.intOf]; omega
            · have zl : decide (D < X) = false := decide_eq_false hl
              refine wp_region_noPanic ?_
              refine rgn.regionT (R := Only []) (by kernel_rfl) (Only.refl []) (fun _ _ _ => Only.trans) (fun _ _ _ _ _ h => h) (.y 0 (.y 1 (.y 2 (.y 3 (.y 4 (.y 5 (.y 6 (.y 7 (.y 8 (.y 9 (.y 10 (.y 11 (.y 12 (.y 13 (.y 14 (.y 15 (.y 16 .z))))))))))))))))) (by kernel_rfl) (fun W2 hWd => ?_)
              have HWd := hid hWd; clear hWd
              have q9 : Only [] w5 W2 := Only.eq_drew (Only.refl [] _) HWd.out
              have Q9 := hid (Q5.out.trans q9); have HC9 := hid (q9.keep HC1.out); have HB9 := hid (HB5.out.only q9 (by simp)); have OB9 := hid (OB5.out.only q9 (by simp)); have HO9 := hid (HO5.out.only q9 (by simp))
              have HD9 := hid (HDq.out.only Q9.out (by simp))
              clear q9 HWd
              refine rgn.Walk.ys (v := ?_) rfl rfl rfl ?_ ?_
              rotate_left 1
              · intro W' hW'
                go_simp
                try with_reducible rfl
              try simp only [Act.put, List.setIfInBounds_toArray, List.set_cons_zero, List.set_cons_succ]
              refine rgn.Walk.ys (v := ?_) rfl rfl rfl ?_ ?_
              rotate_left 1
              · intro W' hW'
                go_simp
                try with_reducible rfl
              try simp only [Act.put, List.setIfInBounds_toArray, List.set_cons_zero, List.set_cons_succ]
              refine rgn.Walk.ys (v := ?_) rfl rfl rfl ?_ ?_
              rotate_left 1
              · intro W' hW'
                go_simp
                try with_reducible rfl
              try simp only [Act.put, List.setIfInBounds_toArray, List.set_cons_zero, List.set_cons_succ]
              refine rgn.Walk.ys (v := ?_) rfl rfl rfl ?_ ?_
              rotate_left 1
              · intro W' hW'
                have q0 := hW'.keep (show W2.cell? ⟨gb, k * 3 + 1, none⟩ = some (.pointer (some ⟨q, 0, none⟩)) from HC9.out)
                go_simp
                try with_reducible rfl
              try simp only [Act.put, List.setIfInBounds_toArray, List.set_cons_zero, List.set_cons_succ]
              refine rgn.Walk.ys (v := ?_) rfl rfl rfl ?_ ?_
              rotate_left 1
              · intro W' hW'
                go_simp
                try with_reducible rfl
              try simp only [Act.put, List.setIfInBounds_toArray, List.set_cons_zero, List.set_cons_succ]
              refine rgn.Walk.ys (v := ?_) rfl rfl rfl ?_ ?_
              rotate_left 1
              · intro W' hW'
                go_simp
                try with_reducible rfl
              try simp only [Act.put, List.setIfInBounds_toArray, List.set_cons_zero, List.set_cons_succ]
              refine rgn.Walk.ys (v := ?_) rfl rfl rfl ?_ ?_
              rotate_left 1
              · intro W' hW'
                go_simp
                try with_reducible rfl
              try simp only [Act.put, List.setIfInBounds_toArray, List.set_cons_zero, List.set_cons_succ]
              refine rgn.Walk.ys (v := ?_) rfl rfl rfl ?_ ?_
              rotate_left 1
              · intro W' hW'
                go_simp
                try with_reducible rfl
              try simp only [Act.put, List.setIfInBounds_toArray, List.set_cons_zero, List.set_cons_succ]
              refine rgn.Walk.ys (v := ?_) rfl rfl rfl ?_ ?_
              rotate_left 1
              · intro W' hW'
                go_simp
                try with_reducible rfl
              try simp only [Act.put, List.setIfInBounds_toArray, List.set_cons_zero, List.set_cons_succ]
              refine rgn.Walk.ys (v := ?_) rfl rfl rfl ?_ ?_
              rotate_left 1
              · intro W' hW'
                have q0 := hW'.keep (show W2.cell? ⟨gb, k * 3 + 1, none⟩ = some (.pointer (some ⟨q, 0, none⟩)) from HC9.out)
                go_simp
                try with_reducible rfl
              try simp only [Act.put, List.setIfInBounds_toArray, List.set_cons_zero, List.set_cons_succ]
              refine rgn.Walk.ys (v := ?_) rfl rfl rfl ?_ ?_
              rotate_left 1
              · intro W' hW'
                go_simp
                try with_reducible rfl
              try simp only [Act.put, List.setIfInBounds_toArray, List.set_cons_zero, List.set_cons_succ]
              refine rgn.Walk.ys (v := ?_) rfl rfl rfl ?_ ?_
              rotate_left 1
              · intro W' hW'
                have q0 := hW'.keep (HD9.out.cell 0)
                go_simp
                try with_reducible rfl
              try simp only [Act.put, List.setIfInBounds_toArray, List.set_cons_zero, List.set_cons_succ]
              refine rgn.Walk.ys (v := ?_) rfl rfl rfl ?_ ?_
              rotate_left 1
              · intro W' hW'
                go_simp
                try with_reducible rfl
              try simp only [Act.put, List.setIfInBounds_toArray, List.set_cons_zero, List.set_cons_succ]
              refine rgn.Walk.ys (v := ?_) rfl rfl rfl ?_ ?_
              rotate_left 1
              · intro W' hW'
                go_simp
                try with_reducible rfl
              try simp only [Act.put, List.setIfInBounds_toArray, List.set_cons_zero, List.set_cons_succ]
              refine rgn.Walk.ys (v := ?_) rfl rfl rfl ?_ ?_
              rotate_left 1
              · intro W' hW'
                have q0 := hW'.keep (HB9.out.cell 0)
                go_simp
                try with_reducible rfl
              try simp only [Act.put, List.setIfInBounds_toArray, List.set_cons_zero, List.set_cons_succ]
              refine rgn.Walk.ys (v := ?_) rfl rfl rfl ?_ ?_
              rotate_left 1
              · intro W' hW'
                have zz := zl
                go_simp
                try with_reducible rfl
              try simp only [Act.put, List.setIfInBounds_toArray, List.set_cons_zero, List.set_cons_succ]
              refine rgn.Walk.ys (v := ?_) rfl rfl rfl ?_ ?_
              rotate_left 1
              · intro W' hW'
                go_simp
                try with_reducible rfl
              try simp only [Act.put, List.setIfInBounds_toArray, List.set_cons_zero, List.set_cons_succ]
              refine rgn.Walk.zs (NoPanic.normal ?_)
              have HI2 : Hid (QI w W2 B (.slice (some ⟨gb, 0, none⟩) n c) M dz (qry grp 100 now draw) (k + 1)) := hid (QI.skip ⟨M', dz', H1.out, H2.out, H3.out, H4.out, H5.out, H6.out⟩ Q9.out HKK.out (by
                rw [← HA1.out]
                unfold qry Mb.ab
                rw [if_neg HNC.out]
                simp only [Option.map]
                rw [HDD.out, HX.out, if_neg hl]))
              clear hl zl
              go_wp2_with fail
              go_roundw
              case rel => exact ⟨k + 1, by omega, by first | rfl | go_num, HI2, HO9, OB9⟩
              case measure => simp [RowKit.intOf]; omega
        · have z1 : (grp != 0) = true := by simpa using hg0
          by_cases hg1 : grp = mg
          · have z2 : (grp != mg) = false := by simpa using hg1
            have HG1 := hid hg1
            clear hg1
            refine wp_region_noPanic ?_
            refine rgn.regionT (R := Only []) (by kernel_rfl) (Only.refl []) (fun _ _ _ => Only.trans) (fun _ _ _ _ _ h => h) (.y 0 (.y 1 (.y 2 (.y 3 (.y 4 (.y 5 (.y 6 (.y 7 (.y 8 (.y 9 (.y 10 (.y 11 .z)))))))))))) (by kernel_rfl) (fun W hWd => ?_)
            have HWd := hid hWd; clear hWd
            have q8 : Only [] wr W := Only.eq_drew (Only.refl [] _) HWd.out
            have OBW := hid (OB.out.only q8 (by simp)); have Q8 := hid q8
            clear q8 HWd
            refine rgn.Walk.ys (v := ?_) rfl rfl rfl ?_ ?_
            rotate_left 1
            · intro W' hW'
              go_simp
              try with_reducible rfl
            try simp only [Act.put, List.setIfInBounds_toArray, List.set_cons_zero, List.set_cons_succ]
            refine rgn.Walk.ys (v := ?_) rfl rfl rfl ?_ ?_
            rotate_left 1
            · intro W' hW'
              have q0 := hW'.keep (OBW.out.cell 2)
              go_simp
              try with_reducible rfl
            try simp only [Act.put, List.setIfInBounds_toArray, List.set_cons_zero, List.set_cons_succ]
            refine rgn.Walk.ys (v := ?_) rfl rfl rfl ?_ ?_
            rotate_left 1
            · intro W' hW'
              go_simp
              try with_reducible rfl
            try simp only [Act.put, List.setIfInBounds_toArray, List.set_cons_zero, List.set_cons_succ]
            refine rgn.Walk.ys (v := ?_) rfl rfl rfl ?_ ?_
            rotate_left 1
            · intro W' hW'
              go_simp
              try with_reducible rfl
            try simp only [Act.put, List.setIfInBounds_toArray, List.set_cons_zero, List.set_cons_succ]
            refine rgn.Walk.ys (v := ?_) rfl rfl rfl ?_ ?_
            rotate_left 1
            · intro W' hW'
              go_simp
              try with_reducible rfl
            try simp only [Act.put, List.setIfInBounds_toArray, List.set_cons_zero, List.set_cons_succ]
            refine rgn.Walk.ys (v := ?_) rfl rfl rfl ?_ ?_
            rotate_left 1
            · intro W' hW'
              have q0 := hW'.keep (OBW.out.cell 2)
              go_simp
              try with_reducible rfl
            try simp only [Act.put, List.setIfInBounds_toArray, List.set_cons_zero, List.set_cons_succ]
            refine rgn.Walk.ys (v := ?_) rfl rfl rfl ?_ ?_
            rotate_left 1
            · intro W' hW'
              go_simp
              try with_reducible rfl
            try simp only [Act.put, List.setIfInBounds_toArray, List.set_cons_zero, List.set_cons_succ]
            refine rgn.Walk.ys (v := ?_) rfl rfl rfl ?_ ?_
            rotate_left 1
            · intro W' hW'
              go_simp
              try with_reducible rfl
            try simp only [Act.put, List.setIfInBounds_toArray, List.set_cons_zero, List.set_cons_succ]
            refine rgn.Walk.ys (v := ?_) rfl rfl rfl ?_ ?_
            rotate_left 1
            · intro W' hW'
              go_simp
              try with_reducible rfl
            try simp only [Act.put, List.setIfInBounds_toArray, List.set_cons_zero, List.set_cons_succ]
            refine rgn.Walk.ys (v := ?_) rfl rfl rfl ?_ ?_
            rotate_left 1
            · intro W' hW'
              have q0 := (Q8.out.trans hW').keep HC0.out
              go_simp
              try with_reducible rfl
            try simp only [Act.put, List.setIfInBounds_toArray, List.set_cons_zero, List.set_cons_succ]
            refine rgn.Walk.ys (v := ?_) rfl rfl rfl ?_ ?_
            rotate_left 1
            · intro W' hW'
              go_simp
              try with_reducible rfl
            try simp only [Act.put, List.setIfInBounds_toArray, List.set_cons_zero, List.set_cons_succ]
            refine rgn.Walk.ys (v := ?_) rfl rfl rfl ?_ ?_
            rotate_left 1
            · intro W' hW'
              go_simp
              try with_reducible rfl
            try simp only [Act.put, List.setIfInBounds_toArray, List.set_cons_zero, List.set_cons_succ]
            refine rgn.Walk.zs (NoPanic.normal ?_)
            have HNC : Hid (¬ (grp ≠ 0 ∧ grp ≠ mg)) := hid (by first | omega | (have := HG1.out; omega))
            have HOW := hid (HO.out.only Q8.out (by simp)); have HCW := hid (HC0.out)
            have c1W := Q8.out.keep c1
            clear hg0 z1 z2
            go_wp2_with fail
            refine (delayed1 W now draw 100 k hnow hdr (by omega) (by omega)).mono ?_
            rintro x w5 ⟨b, rfl, hb5, o5, hs5⟩
            rw [show (max (100 : Int) 1).toNat = (100 : Int).toNat from by omega] at hb5
            have Q5 := hid (Q8.out.trans o5); have OB5 := hid (OBW.out.only o5 (by simp)); have HO5 := hid (HOW.out.only o5 (by simp)); have HB5 := hid hb5; have HBL : Hid (wr.heap.size ≤ b) := hid (Nat.le_trans Q8.out.size hs5)
            obtain ⟨D, hD⟩ : ∃ D, laterZ now (dly draw.toNat k (100 : Int).toNat : Nat) = D := ⟨_, rfl⟩
            rw [hD] at HB5
            have HDD := hid hD
            have HC1 := hid (o5.keep c1W)
            clear c1W hb5 o5 hs5 hD
            go_wp2_with fail
            cases mp with
            | none =>
              refine wp_region_noPanic ?_
              refine rgn.regionT (R := Only []) (by kernel_rfl) (Only.refl []) (fun _ _ _ => Only.trans) (fun _ _ _ _ _ h => h) (.y 0 (.y 1 (.y 2 (.y 3 (.y 4 (.y 5 (.y 6 (.y 7 (.y 8 (.y 9 (.y 10 (.y 11 (.y 12 (.y 13 (.y 14 (.y 15 (.y 16 .z))))))))))))))))) (by kernel_rfl) (fun W2 hWd => ?_)
              have HWd := hid hWd; clear hWd
              have q9 : Only [] w5 W2 := Only.eq_drew (Only.refl [] _) HWd.out
              have Q9 := hid (Q5.out.trans q9); have HC9 := hid (q9.keep HC1.out); have HB9 := hid (HB5.out.only q9 (by simp)); have OB9 := hid (OB5.out.only q9 (by simp)); have HO9 := hid (HO5.out.only q9 (by simp))
              clear q9 HWd
              refine rgn.Walk.ys (v := ?_) rfl rfl rfl ?_ ?_
              rotate_left 1
              · intro W' hW'
                go_simp
                try with_reducible rfl
              try simp only [Act.put, List.setIfInBounds_toArray, List.set_cons_zero, List.set_cons_succ]
              refine rgn.Walk.ys (v := ?_) rfl rfl rfl ?_ ?_
              rotate_left 1
              · intro W' hW'
                go_simp
                try with_reducible rfl
              try simp only [Act.put, List.setIfInBounds_toArray, List.set_cons_zero, List.set_cons_succ]
              refine rgn.Walk.ys (v := ?_) rfl rfl rfl ?_ ?_
              rotate_left 1
              · intro W' hW'
                go_simp
                try with_reducible rfl
              try simp only [Act.put, List.setIfInBounds_toArray, List.set_cons_zero, List.set_cons_succ]
              refine rgn.Walk.ys (v := ?_) rfl rfl rfl ?_ ?_
              rotate_left 1
              · intro W' hW'
                have q0 := hW'.keep (show W2.cell? ⟨gb, k * 3 + 1, none⟩ = some (.pointer none) from HC9.out)
                go_simp
                try with_reducible rfl
              try simp only [Act.put, List.setIfInBounds_toArray, List.set_cons_zero, List.set_cons_succ]
              refine rgn.Walk.ys (v := ?_) rfl rfl rfl ?_ ?_
              rotate_left 1
              · intro W' hW'
                go_simp
                try with_reducible rfl
              try simp only [Act.put, List.setIfInBounds_toArray, List.set_cons_zero, List.set_cons_succ]
              refine rgn.Walk.ys (v := ?_) rfl rfl rfl ?_ ?_
              rotate_left 1
              · intro W' hW'
                go_simp
                try with_reducible rfl
              try simp only [Act.put, List.setIfInBounds_toArray, List.set_cons_zero, List.set_cons_succ]
              refine rgn.Walk.yn rfl rfl rfl ?_
              try simp only [Act.put, List.setIfInBounds_toArray, List.set_cons_zero, List.set_cons_succ]
              refine rgn.Walk.yn rfl rfl rfl ?_
              try simp only [Act.put, List.setIfInBounds_toArray, List.set_cons_zero, List.set_cons_succ]
              refine rgn.Walk.yn rfl rfl rfl ?_
              try simp only [Act.put, List.setIfInBounds_toArray, List.set_cons_zero, List.set_cons_succ]
              refine rgn.Walk.yn rfl rfl rfl ?_
              try simp only [Act.put, List.setIfInBounds_toArray, List.set_cons_zero, List.set_cons_succ]
              refine rgn.Walk.yn rfl rfl rfl ?_
              try simp only [Act.put, List.setIfInBounds_toArray, List.set_cons_zero, List.set_cons_succ]
              refine rgn.Walk.yn rfl rfl rfl ?_
              try simp only [Act.put, List.setIfInBounds_toArray, List.set_cons_zero, List.set_cons_succ]
              refine rgn.Walk.yn rfl rfl rfl ?_
              try simp only [Act.put, List.setIfInBounds_toArray, List.set_cons_zero, List.set_cons_succ]
              refine rgn.Walk.yn rfl rfl rfl ?_
              try simp only [Act.put, List.setIfInBounds_toArray, List.set_cons_zero, List.set_cons_succ]
              refine rgn.Walk.yn rfl rfl rfl ?_
              try simp only [Act.put, List.setIfInBounds_toArray, List.set_cons_zero, List.set_cons_succ]
              refine rgn.Walk.yn rfl rfl rfl ?_
              try simp only [Act.put, List.setIfInBounds_toArray, List.set_cons_zero, List.set_cons_succ]
              refine rgn.Walk.ys (v := ?_) rfl rfl rfl ?_ ?_
              rotate_left 1
              · intro W' hW'
                go_simp
                try with_reducible rfl
              try simp only [Act.put, List.setIfInBounds_toArray, List.set_cons_zero, List.set_cons_succ]
              refine rgn.Walk.zs (NoPanic.normal ?_)
              have kc := HC9.out
              have fc := (HCU.out.only Q9.out (by simp)).frozen (k * 3 + 1)
              obtain ⟨WS, hWS⟩ : ∃ WS, W2.setCell ⟨gb, k * 3 + 1, none⟩ (.pointer (some ⟨b, 0, none⟩)) = WS := ⟨_, rfl⟩
              have HF9 : Hid (qry grp 100 now draw k ((M.map (Mb.ab dz))[k]'(by simpa using HKK.out)) = ⟨(M'[k]'(by have := HKM.out; omega)).g, some D, (M'[k]'(by have := HKM.out; omega)).o⟩) := hid (by
                rw [← HA1.out, HMM.out]
                unfold qry Mb.ab
                rw [if_neg HNC.out]
                simp only [Option.map]
                rw [HDD.out])
              have HI2 : Hid (QI w WS B (.slice (some ⟨gb, 0, none⟩) n c) M dz (qry grp 100 now draw) (k + 1)) := hid (QI.put hWS HKK.out H1.out H2.out H3.out H4.out H5.out H6.out Q9.out HB9.out HBL.out HF9.out)
              have HO2 : Hid (Ob WS g 46 _) := hid (by rw [← hWS]; exact HO9.out.far (p := ⟨gb, k * 3 + 1, none⟩) (fun e => HNV.out (by rw [e]; rfl)) _)
              have OB2 : Hid (Ob WS w.heap.size 25 _) := hid (by rw [← hWS]; exact OB9.out.far (p := ⟨gb, k * 3 + 1, none⟩) (fun e => HNB.out (by rw [e]; rfl)) _)
              go_wp2_with fail
              go_roundw
              case rel => exact ⟨k + 1, by omega, by first | rfl | go_num, HI2, HO2, OB2⟩
              case measure => simp [RowKit.intOf]; omega
            | some q =>
              have HDq := hid (HDu.out q rfl)
              obtain ⟨X, hX⟩ : ∃ X, dz' q = X := ⟨_, rfl⟩
              have HX := hid hX
              rw [hX] at HDq
              clear hX
              by_cases hl : D < X
              · have zl : decide (D < X) = true := decide_eq_true hl
                refine wp_region_noPanic ?_
                refine rgn.regionT (R := Only []) (by kernel_rfl) (Only.refl []) (fun _ _ _ => Only.trans) (fun _ _ _ _ _ h => h) (.y 0 (.y 1 (.y 2 (.y 3 (.y 4 (.y 5 (.y 6 (.y 7 (.y 8 (.y 9 (.y 10 (.y 11 (.y 12 (.y 13 (.y 14 (.y 15 (.y 16 .z))))))))))))))))) (by kernel_rfl) (fun W2 hWd => ?_)
                have HWd := hid hWd; clear hWd
                have q9 : Only [] w5 W2 := Only.eq_drew (Only.refl [] _) HWd.out
                have Q9 := hid (Q5.out.trans q9); have HC9 := hid (q9.keep HC1.out); have HB9 := hid (HB5.out.only q9 (by simp)); have OB9 := hid (OB5.out.only q9 (by simp)); have HO9 := hid (HO5.out.only q9 (by simp))
                have HD9 := hid (HDq.out.only Q9.out (by simp))
                clear q9 HWd
                refine rgn.Walk.ys (v := ?_) rfl rfl rfl ?_ ?_
                rotate_left 1
                · intro W' hW'
                  go_simp
                  try with_reducible rfl
                try simp only [Act.put, List.setIfInBounds_toArray, List.set_cons_zero, List.set_cons_succ]
                refine rgn.Walk.ys (v := ?_) rfl rfl rfl ?_ ?_
                rotate_left 1
                · intro W' hW'
                  go_simp
                  try with_reducible rfl
                try simp only [Act.put, List.setIfInBounds_toArray, List.set_cons_zero, List.set_cons_succ]
                refine rgn.Walk.ys (v := ?_) rfl rfl rfl ?_ ?_
                rotate_left 1
                · intro W' hW'
                  go_simp
                  try with_reducible rfl
                try simp only [Act.put, List.setIfInBounds_toArray, List.set_cons_zero, List.set_cons_succ]
                refine rgn.Walk.ys (v := ?_) rfl rfl rfl ?_ ?_
                rotate_left 1
                · intro W' hW'
                  have q0 := hW'.keep (show W2.cell? ⟨gb, k * 3 + 1, none⟩ = some (.pointer (some ⟨q, 0, none⟩)) from HC9.out)
                  go_simp
                  try with_reducible rfl
                try simp only [Act.put, List.setIfInBounds_toArray, List.set_cons_zero, List.set_cons_succ]
                refine rgn.Walk.ys (v := ?_) rfl rfl rfl ?_ ?_
                rotate_left 1
                · intro W' hW'
                  go_simp
                  try with_reducible rfl
                try simp only [Act.put, List.setIfInBounds_toArray, List.set_cons_zero, List.set_cons_succ]
                refine rgn.Walk.ys (v := ?_) rfl rfl rfl ?_ ?_
                rotate_left 1
                · intro W' hW'
                  go_simp
                  try with_reducible rfl
                try simp only [Act.put, List.setIfInBounds_toArray, List.set_cons_zero, List.set_cons_succ]
                refine rgn.Walk.ys (v := ?_) rfl rfl rfl ?_ ?_
                rotate_left 1
                · intro W' hW'
                  go_simp
                  try with_reducible rfl
                try simp only [Act.put, List.setIfInBounds_toArray, List.set_cons_zero, List.set_cons_succ]
                refine rgn.Walk.ys (v := ?_) rfl rfl rfl ?_ ?_
                rotate_left 1
                · intro W' hW'
                  go_simp
                  try with_reducible rfl
                try simp only [Act.put, List.setIfInBounds_toArray, List.set_cons_zero, List.set_cons_succ]
                refine rgn.Walk.ys (v := ?_) rfl rfl rfl ?_ ?_
                rotate_left 1
                · intro W' hW'
                  go_simp
                  try with_reducible rfl
                try simp only [Act.put, List.setIfInBounds_toArray, List.set_cons_zero, List.set_cons_succ]
                refine rgn.Walk.ys (v := ?_) rfl rfl rfl ?_ ?_
                rotate_left 1
                · intro W' hW'
                  have q0 := hW'.keep (show W2.cell? ⟨gb, k * 3 + 1, none⟩ = some (.pointer (some ⟨q, 0, none⟩)) from HC9.out)
                  go_simp
                  try with_reducible rfl
                try simp only [Act.put, List.setIfInBounds_toArray, List.set_cons_zero, List.set_cons_succ]
                refine rgn.Walk.ys (v := ?_) rfl rfl rfl ?_ ?_
                rotate_left 1
                · intro W' hW'
                  go_simp
                  try with_reducible rfl
                try simp only [Act.put, List.setIfInBounds_toArray, List.set_cons_zero, List.set_cons_succ]
                refine rgn.Walk.ys (v := ?_) rfl rfl rfl ?_ ?_
                rotate_left 1
                · intro W' hW'
                  have q0 := hW'.keep (HD9.out.cell 0)
                  go_simp
                  try with_reducible rfl
                try simp only [Act.put, List.setIfInBounds_toArray, List.set_cons_zero, List.set_cons_succ]
                refine rgn.Walk.ys (v := ?_) rfl rfl rfl ?_ ?_
                rotate_left 1
                · intro W' hW'
                  go_simp
                  try with_reducible rfl
                try simp only [Act.put, List.setIfInBounds_toArray, List.set_cons_zero, List.set_cons_succ]
                refine rgn.Walk.ys (v := ?_) rfl rfl rfl ?_ ?_
                rotate_left 1
                · intro W' hW'
                  go_simp
                  try with_reducible rfl
                try simp only [Act.put, List.setIfInBounds_toArray, List.set_cons_zero, List.set_cons_succ]
                refine rgn.Walk.ys (v := ?_) rfl rfl rfl ?_ ?_
                rotate_left 1
                · intro W' hW'
                  have q0 := hW'.keep (HB9.out.cell 0)
                  go_simp
                  try with_reducible rfl
                try simp only [Act.put, List.setIfInBounds_toArray, List.set_cons_zero, List.set_cons_succ]
                refine rgn.Walk.ys (v := ?_) rfl rfl rfl ?_ ?_
                rotate_left 1
                · intro W' hW'
                  have zz := zl
                  go_simp
                  try with_reducible rfl
                try simp only [Act.put, List.setIfInBounds_toArray, List.set_cons_zero, List.set_cons_succ]
                refine rgn.Walk.ys (v := ?_) rfl rfl rfl ?_ ?_
                rotate_left 1
                · intro W' hW'
                  go_simp
                  try with_reducible rfl
                try simp only [Act.put, List.setIfInBounds_toArray, List.set_cons_zero, List.set_cons_succ]
                refine rgn.Walk.zs (NoPanic.normal ?_)
                have kc := HC9.out
                have fc := (HCU.out.only Q9.out (by simp)).frozen (k * 3 + 1)
                obtain ⟨WS, hWS⟩ : ∃ WS, W2.setCell ⟨gb, k * 3 + 1, none⟩ (.pointer (some ⟨b, 0, none⟩)) = WS := ⟨_, rfl⟩
                have HF9 : Hid (qry grp 100 now draw k ((M.map (Mb.ab dz))[k]'(by simpa using HKK.out)) = ⟨(M'[k]'(by have := HKM.out; omega)).g, some D, (M'[k]'(by have := HKM.out; omega)).o⟩) := hid (by
                  rw [← HA1.out, HMM.out]
                  unfold qry Mb.ab
                  rw [if_neg HNC.out]
                  simp only [Option.map]
                  rw [HDD.out, HX.out, if_pos hl])
                have HI2 : Hid (QI w WS B (.slice (some ⟨gb, 0, none⟩) n c) M dz (qry grp 100 now draw) (k + 1)) := hid (QI.put hWS HKK.out H1.out H2.out H3.out H4.out H5.out H6.out Q9.out HB9.out HBL.out HF9.out)
                have HO2 : Hid (Ob WS g 46 _) := hid (by rw [← hWS]; exact HO9.out.far (p := ⟨gb, k * 3 + 1, none⟩) (fun e => HNV.out (by rw [e]; rfl)) _)
                have OB2 : Hid (Ob WS w.heap.size 25 _) := hid (by rw [← hWS]; exact OB9.out.far (p := ⟨gb, k * 3 + 1, none⟩) (fun e => HNB.out (by rw [e]; rfl)) _)
                go_wp2_with fail
                go_roundw
                case rel => exact ⟨k + 1, by omega, by first | rfl | go_num, HI2, HO2, OB2⟩
                case measure => simp [RowKit.intOf]; omega
              · have zl : decide (D < X) = false := decide_eq_false hl
                refine wp_region_noPanic ?_
                refine rgn.regionT (R := Only []) (by kernel_rfl) (Only.refl []) (fun _ _ _ => Only.trans) (fun _ _ _ _ _ h => h) (.y 0 (.y 1 (.y 2 (.y 3 (.y 4 (.y 5 (.y 6 (.y 7 (.y 8 (.y 9 (.y 10 (.y 11 (.y 12 (.y 13 (.y 14 (.y 15 (.y 16 .z))))))))))))))))) (by kernel_rfl) (fun W2 hWd => ?_)
                have HWd := hid hWd; clear hWd
                have q9 : Only [] w5 W2 := Only.eq_drew (Only.refl [] _) HWd.out
                have Q9 := hid (Q5.out.trans q9); have HC9 := hid (q9.keep HC1.out); have HB9 := hid (HB5.out.only q9 (by simp)); have OB9 := hid (OB5.out.only q9 (by simp)); have HO9 := hid (HO5.out.only q9 (by simp))
                have HD9 := hid (HDq.out.only Q9.out (by simp))
                clear q9 HWd
                refine rgn.Walk.ys (v := ?_) rfl rfl rfl ?_ ?_
                rotate_left 1
                · intro W' hW'
                  go_simp
                  try with_reducible rfl
                try simp only [Act.put, List.setIfInBounds_toArray, List.set_cons_zero, List.set_cons_succ]
                refine rgn.Walk.ys (v := ?_) rfl rfl rfl ?_ ?_
                rotate_left 1
                · intro W' hW'
                  go_simp
                  try with_reducible rfl
                try simp only [Act.put, List.setIfInBounds_toArray, List.set_cons_zero, List.set_cons_succ]
                refine rgn.Walk.ys (v := ?_) rfl rfl rfl ?_ ?_
                rotate_left 1
                · intro W' hW'
                  go_simp
                  try with_reducible rfl
                try simp only [Act.put, List.setIfInBounds_toArray, List.set_cons_zero, List.set_cons_succ]
                refine rgn.Walk.ys (v := ?_) rfl rfl rfl ?_ ?_
                rotate_left 1
                · intro W' hW'
                  have q0 := hW'.keep (show W2.cell? ⟨gb, k * 3 + 1, none⟩ = some (.pointer (some ⟨q, 0, none⟩)) from HC9.out)
                  go_simp
                  try with_reducible rfl
                try simp only [Act.put, List.setIfInBounds_toArray, List.set_cons_zero, List.set_cons_succ]
                refine rgn.Walk.ys (v := ?_) rfl rfl rfl ?_ ?_
                rotate_left 1
                · intro W' hW'
                  go_simp
                  try with_reducible rfl
                try simp only [Act.put, List.setIfInBounds_toArray, List.set_cons_zero, List.set_cons_succ]
                refine rgn.Walk.ys (v := ?_) rfl rfl rfl ?_ ?_
                rotate_left 1
                · intro W' hW'
                  go_simp
                  try with_reducible rfl
                try simp only [Act.put, List.setIfInBounds_toArray, List.set_cons_zero, List.set_cons_succ]
                refine rgn.Walk.ys (v := ?_) rfl rfl rfl ?_ ?_
                rotate_left 1
                · intro W' hW'
                  go_simp
                  try with_reducible rfl
                try simp only [Act.put, List.setIfInBounds_toArray, List.set_cons_zero, List.set_cons_succ]
                refine rgn.Walk.ys (v := ?_) rfl rfl rfl ?_ ?_
                rotate_left 1
                · intro W' hW'
                  go_simp
                  try with_reducible rfl
                try simp only [Act.put, List.setIfInBounds_toArray, List.set_cons_zero, List.set_cons_succ]
                refine rgn.Walk.ys (v := ?_) rfl rfl rfl ?_ ?_
                rotate_left 1
                · intro W' hW'
                  go_simp
                  try with_reducible rfl
                try simp only [Act.put, List.setIfInBounds_toArray, List.set_cons_zero, List.set_cons_succ]
                refine rgn.Walk.ys (v := ?_) rfl rfl rfl ?_ ?_
                rotate_left 1
                · intro W' hW'
                  have q0 := hW'.keep (show W2.cell? ⟨gb, k * 3 + 1, none⟩ = some (.pointer (some ⟨q, 0, none⟩)) from HC9.out)
                  go_simp
                  try with_reducible rfl
                try simp only [Act.put, List.setIfInBounds_toArray, List.set_cons_zero, List.set_cons_succ]
                refine rgn.Walk.ys (v := ?_) rfl rfl rfl ?_ ?_
                rotate_left 1
                · intro W' hW'
                  go_simp
                  try with_reducible rfl
                try simp only [Act.put, List.setIfInBounds_toArray, List.set_cons_zero, List.set_cons_succ]
                refine rgn.Walk.ys (v := ?_) rfl rfl rfl ?_ ?_
                rotate_left 1
                · intro W' hW'
                  have q0 := hW'.keep (HD9.out.cell 0)
                  go_simp
                  try with_reducible rfl
                try simp only [Act.put, List.setIfInBounds_toArray, List.set_cons_zero, List.set_cons_succ]
                refine rgn.Walk.ys (v := ?_) rfl rfl rfl ?_ ?_
                rotate_left 1
                · intro W' hW'
                  go_simp
                  try with_reducible rfl
                try simp only [Act.put, List.setIfInBounds_toArray, List.set_cons_zero, List.set_cons_succ]
                refine rgn.Walk.ys (v := ?_) rfl rfl rfl ?_ ?_
                rotate_left 1
                · intro W' hW'
                  go_simp
                  try with_reducible rfl
                try simp only [Act.put, List.setIfInBounds_toArray, List.set_cons_zero, List.set_cons_succ]
                refine rgn.Walk.ys (v := ?_) rfl rfl rfl ?_ ?_
                rotate_left 1
                · intro W' hW'
                  have q0 := hW'.keep (HB9.out.cell 0)
                  go_simp
                  try with_reducible rfl
                try simp only [Act.put, List.setIfInBounds_toArray, List.set_cons_zero, List.set_cons_succ]
                refine rgn.Walk.ys (v := ?_) rfl rfl rfl ?_ ?_
                rotate_left 1
                · intro W' hW'
                  have zz := zl
                  go_simp
                  try with_reducible rfl
                try simp only [Act.put, List.setIfInBounds_toArray, List.set_cons_zero, List.set_cons_succ]
                refine rgn.Walk.ys (v := ?_) rfl rfl rfl ?_ ?_
                rotate_left 1
                · intro W' hW'
                  go_simp
                  try with_reducible rfl
                try simp only [Act.put, List.setIfInBounds_toArray, List.set_cons_zero, List.set_cons_succ]
                refine rgn.Walk.zs (NoPanic.normal ?_)
                have HI2 : Hid (QI w W2 B (.slice (some ⟨gb, 0, none⟩) n c) M dz (qry grp 100 now draw) (k + 1)) := hid (QI.skip ⟨M', dz', H1.out, H2.out, H3.out, H4.out, H5.out, H6.out⟩ Q9.out HKK.out (by
                  rw [← HA1.out]
                  unfold qry Mb.ab
                  rw [if_neg HNC.out]
                  simp only [Option.map]
                  rw [HDD.out, HX.out, if_neg hl]))
                clear hl zl
                go_wp2_with fail
                go_roundw
                case rel => exact ⟨k + 1, by omega, by first | rfl | go_num, HI2, HO9, OB9⟩
                case measure => simp [RowKit.intOf]; omega
          · have z2 : (grp != mg) = true := by simpa using hg1
            refine wp_region_noPanic ?_
            refine rgn.regionT (R := Only []) (by kernel_rfl) (Only.refl []) (fun _ _ _ => Only.trans) (fun _ _ _ _ _ h => h) (.y 0 (.y 1 (.y 2 (.y 3 (.y 4 (.y 5 (.y 6 (.y 7 (.y 8 (.y 9 (.y 10 (.y 11 .z)))))))))))) (by kernel_rfl) (fun W hWd => ?_)
            have HWd := hid hWd; clear hWd
            have q8 : Only [] wr W := Only.eq_drew (Only.refl [] _) HWd.out
            have OBW := hid (OB.out.only q8 (by simp)); have Q8 := hid q8
            clear q8 HWd
            refine rgn.Walk.ys (v := ?_) rfl rfl rfl ?_ ?_
            rotate_left 1
            · intro W' hW'
              go_simp
              try with_reducible rfl
            try simp only [Act.put, List.setIfInBounds_toArray, List.set_cons_zero, List.set_cons_succ]
            refine rgn.Walk.ys (v := ?_) rfl rfl rfl ?_ ?_
            rotate_left 1
            · intro W' hW'
              have q0 := hW'.keep (OBW.out.cell 2)
              go_simp
              try with_reducible rfl
            try simp only [Act.put, List.setIfInBounds_toArray, List.set_cons_zero, List.set_cons_succ]
            refine rgn.Walk.ys (v := ?_) rfl rfl rfl ?_ ?_
            rotate_left 1
            · intro W' hW'
              go_simp
              try with_reducible rfl
            try simp only [Act.put, List.setIfInBounds_toArray, List.set_cons_zero, List.set_cons_succ]
            refine rgn.Walk.ys (v := ?_) rfl rfl rfl ?_ ?_
            rotate_left 1
            · intro W' hW'
              go_simp
              try with_reducible rfl
            try simp only [Act.put, List.setIfInBounds_toArray, List.set_cons_zero, List.set_cons_succ]
            refine rgn.Walk.ys (v := ?_) rfl rfl rfl ?_ ?_
            rotate_left 1
            · intro W' hW'
              go_simp
              try with_reducible rfl
            try simp only [Act.put, List.setIfInBounds_toArray, List.set_cons_zero, List.set_cons_succ]
            refine rgn.Walk.ys (v := ?_) rfl rfl rfl ?_ ?_
            rotate_left 1
            · intro W' hW'
              have q0 := hW'.keep (OBW.out.cell 2)
              go_simp
              try with_reducible rfl
            try simp only [Act.put, List.setIfInBounds_toArray, List.set_cons_zero, List.set_cons_succ]
            refine rgn.Walk.ys (v := ?_) rfl rfl rfl ?_ ?_
            rotate_left 1
            · intro W' hW'
              go_simp
              try with_reducible rfl
            try simp only [Act.put, List.setIfInBounds_toArray, List.set_cons_zero, List.set_cons_succ]
            refine rgn.Walk.ys (v := ?_) rfl rfl rfl ?_ ?_
            rotate_left 1
            · intro W' hW'
              go_simp
              try with_reducible rfl
            try simp only [Act.put, List.setIfInBounds_toArray, List.set_cons_zero, List.set_cons_succ]
            refine rgn.Walk.ys (v := ?_) rfl rfl rfl ?_ ?_
            rotate_left 1
            · intro W' hW'
              go_simp
              try with_reducible rfl
            try simp only [Act.put, List.setIfInBounds_toArray, List.set_cons_zero, List.set_cons_succ]
            refine rgn.Walk.ys (v := ?_) rfl rfl rfl ?_ ?_
            rotate_left 1
            · intro W' hW'
              have q0 := (Q8.out.trans hW').keep HC0.out
              go_simp
              try with_reducible rfl
            try simp only [Act.put, List.setIfInBounds_toArray, List.set_cons_zero, List.set_cons_succ]
            refine rgn.Walk.ys (v := ?_) rfl rfl rfl ?_ ?_
            rotate_left 1
            · intro W' hW'
              go_simp
              try with_reducible rfl
            try simp only [Act.put, List.setIfInBounds_toArray, List.set_cons_zero, List.set_cons_succ]
            refine rgn.Walk.ys (v := ?_) rfl rfl rfl ?_ ?_
            rotate_left 1
            · intro W' hW'
              go_simp
              try with_reducible rfl
            try simp only [Act.put, List.setIfInBounds_toArray, List.set_cons_zero, List.set_cons_succ]
            refine rgn.Walk.zs (NoPanic.normal ?_)
            have HI2 : Hid (QI w W B (.slice (some ⟨gb, 0, none⟩) n c) M dz (qry grp 100 now draw) (k + 1)) := hid (QI.skip ⟨M', dz', H1.out, H2.out, H3.out, H4.out, H5.out, H6.out⟩ Q8.out HKK.out (by rw [← HA1.out]; unfold qry; rw [if_pos ⟨hg0, hg1⟩]))
            have HO2 := hid (HO.out.only Q8.out (by simp))
            clear hg0 hg1 z1 z2
            go_wp2_with fail
            go_roundw
            case rel => exact ⟨k + 1, by omega, by first | rfl | go_num, HI2, HO2, OBW⟩
            case measure => simp [RowKit.intOf]; omega
      · obtain rfl : k = n := by omega
        go_wp2_with fail
        refine bodyPost_end (results_none rfl _ _ _) rfl ?_
        exact ⟨rfl, HO.out, HQ.out⟩
  · obtain rfl : mx = mo := by rw [HMO.out, if_neg hm0]
    have z0 : (mx == 0) = false := by simpa using hm0
    go_enter Try.func43, Try.ntmps43
    go_wp2_with fail
    clear k0 g1 z0 hm0
    go_loopw [21, 9, 10, 11] (fun i _ _ _ wr => ∃ k : Nat, k ≤ n ∧ i = .int .i64 k ∧ Hid (QI w wr B (.slice A n c) M dz (qry grp mx now draw) k) ∧ Hid (Ob wr g 46 #[.slice A n c]) ∧ Hid (Ob wr w.heap.size 25 #[.int .i64 ty, .int .i64 mx, .int .u32 grp])) (fun i _ _ _ _ => n - (RowKit.intOf i).toNat)
    case atStart => exact ⟨0, by omega, rfl, HQ0, HO0, OB⟩
    case round =>
      clear HQ0 HO0 OB
      obtain ⟨k, hk, rfl, HQ, HO, OB⟩ := hrel
      by_cases hlt : k < n
      · obtain ⟨M', dz', h1, h2, h3, h4, h5, h6⟩ := HQ.out
        obtain ⟨gb, rfl⟩ : ∃ gb, A = some ⟨gb, 0, none⟩ := by
          rcases HFA.out with h | h
          · exfalso
            rcases h1.2 with ⟨h9, h8⟩ | ⟨p, cap, cur, h9, _⟩
            · have := HNm.out; omega
            · rw [h] at h9; cases h9
          · exact h
        have h6b : Only [gb] w wr := h6
        have hkm : k < M'.length := by rw [h5, HNm.out]; exact hlt
        have hkM : k < M.length := by rw [HNm.out]; exact hlt
        obtain ⟨a1, _, _⟩ := ab_split (by simpa using hkM) h3 hkm
        obtain ⟨mm, hmm⟩ : ∃ mm, M'[k] = mm := ⟨_, rfl⟩
        have hM : M' = M'.take k ++ mm :: M'.drop (k + 1) := by rw [← hmm, ← List.drop_eq_getElem_cons hkm, List.take_append_drop]
        have hlk : (M'.take k).length = k := by rw [List.length_take]; omega
        obtain ⟨_, cx, ev, -, -, -, hr, -, -⟩ := RdS.of_own h1 (rws_one enc_one _)
        injection ev with ev1 ev2 ev3; clear ev2; subst ev3; subst ev1
        rw [hM] at hr
        obtain ⟨c0, c1, c2⟩ := mid_cell hr (by rw [← hM]) hlk
        have H1 := hid h1; have H2 := hid h2; have H3 := hid h3; have H4 := hid h4; have H5 := hid h5; have H6 := hid h6b; have HKM := hid hkm; have HKK := hid hkM
        obtain ⟨cur, hcur, hcs⟩ : ∃ cur, Ob wr gb 77 cur ∧ n * 3 ≤ cur.size := by
          rcases h1.2 with ⟨h9, _⟩ | ⟨p, cap, cur, h9, _, hh, hnc, _, hs, _⟩
          · cases h9
          · injection h9 with e1 _ _; injection e1 with e1; injection e1 with e1; subst e1
            exact ⟨cur, hh, by rw [hs]; have := HNm.out; exact Nat.mul_le_mul_right _ (by omega)⟩
        have HCU := hid hcur
        have HA1 : Hid (mm.ab dz' = (M.map (Mb.ab dz))[k]'(by simpa using hkM)) := hid (by rw [← hmm]; exact a1)
        have HDu : Hid (∀ q, mm.p = some q → Ob wr q 3 #[.int .i64 (dz' q)]) := hid (fun q hq => h2 mm (by rw [← hmm]; exact List.getElem_mem hkm) q hq)
        have HMM := hid hmm
        obtain ⟨mg, mp, mo_⟩ := mm
        have HC0 : Hid (wr.cell? ⟨gb, k * 3, none⟩ = some (.int .u32 mg)) := hid c0
        have k0 := HO.out.cell 0
        clear h1 h2 h3 h4 h5 h6 h6b a1 hM hlk hr c0 c2 hmm hcur HQ
        go_wp2_with fail
        clear k0
        by_cases hg0 : grp = 0
        · have z1 : (grp != 0) = false := by simpa using hg0
          refine wp_region_noPanic ?_
          refine rgn.regionT (R := Only []) (by kernel_rfl) (Only.refl []) (fun _ _ _ => Only.trans) (fun _ _ _ _ _ h => h) (.y 0 (.y 1 (.y 2 (.y 3 (.y 4 (.y 5 (.y 6 (.y 7 (.y 8 (.y 9 (.y 10 (.y 11 .z)))))))))))) (by kernel_rfl) (fun W hWd => ?_)
          have HWd := hid hWd; clear hWd
          have q8 : Only [] wr W := Only.eq_drew (Only.refl [] _) HWd.out
          have OBW := hid (OB.out.only q8 (by simp)); have Q8 := hid q8
          clear q8 HWd
          refine rgn.Walk.ys (v := ?_) rfl rfl rfl ?_ ?_
          rotate_left 1
          · intro W' hW'
            go_simp
            try with_reducible rfl
          try simp only [Act.put, List.setIfInBounds_toArray, List.set_cons_zero, List.set_cons_succ]
          refine rgn.Walk.ys (v := ?_) rfl rfl rfl ?_ ?_
          rotate_left 1
          · intro W' hW'
            have q0 := hW'.keep (OBW.out.cell 2)
            go_simp
            try with_reducible rfl
          try simp only [Act.put, List.setIfInBounds_toArray, List.set_cons_zero, List.set_cons_succ]
          refine rgn.Walk.ys (v := ?_) rfl rfl rfl ?_ ?_
          rotate_left 1
          · intro W' hW'
            go_simp
            try with_reducible rfl
          try simp only [Act.put, List.setIfInBounds_toArray, List.set_cons_zero, List.set_cons_succ]
          refine rgn.Walk.ys (v := ?_) rfl rfl rfl ?_ ?_
          rotate_left 1
          · intro W' hW'
            go_simp
            try with_reducible rfl
          try simp only [Act.put, List.setIfInBounds_toArray, List.set_cons_zero, List.set_cons_succ]
          refine rgn.Walk.yn rfl rfl rfl ?_
          try simp only [Act.put, List.setIfInBounds_toArray, List.set_cons_zero, List.set_cons_succ]
          refine rgn.Walk.yn rfl rfl rfl ?_
          try simp only [Act.put, List.setIfInBounds_toArray, List.set_cons_zero, List.set_cons_succ]
          refine rgn.Walk.yn rfl rfl rfl ?_
          try simp only [Act.put, List.setIfInBounds_toArray, List.set_cons_zero, List.set_cons_succ]
          refine rgn.Walk.yn rfl rfl rfl ?_
          try simp only [Act.put, List.setIfInBounds_toArray, List.set_cons_zero, List.set_cons_succ]
          refine rgn.Walk.yn rfl rfl rfl ?_
          try simp only [Act.put, List.setIfInBounds_toArray, List.set_cons_zero, List.set_cons_succ]
          refine rgn.Walk.yn rfl rfl rfl ?_
          try simp only [Act.put, List.setIfInBounds_toArray, List.set_cons_zero, List.set_cons_succ]
          refine rgn.Walk.yn rfl rfl rfl ?_
          try simp only [Act.put, List.setIfInBounds_toArray, List.set_cons_zero, List.set_cons_succ]
          refine rgn.Walk.ys (v := ?_) rfl rfl rfl ?_ ?_
          rotate_left 1
          · intro W' hW'
            go_simp
            try with_reducible rfl
          try simp only [Act.put, List.setIfInBounds_toArray, List.set_cons_zero, List.set_cons_succ]
          refine rgn.Walk.zs (NoPanic.normal ?_)
          have HNC : Hid (¬ (grp ≠ 0 ∧ grp ≠ mg)) := hid (by first | omega | (have := HG1.out; omega))
          have HOW := hid (HO.out.only Q8.out (by simp)); have HCW := hid (HC0.out)
          have c1W := Q8.out.keep c1
          clear hg0 z1
          go_wp2_with fail
          refine (delayed1 W now draw mx k hnow hdr (by omega) (by omega)).mono ?_
          rintro x w5 ⟨b, rfl, hb5, o5, hs5⟩
          rw [show (max (mx : Int) 1).toNat = (mx : Int).toNat from by omega] at hb5
          have Q5 := hid (Q8.out.trans o5); have OB5 := hid (OBW.out.only o5 (by simp)); have HO5 := hid (HOW.out.only o5 (by simp)); have HB5 := hid hb5; have HBL : Hid (wr.heap.size ≤ b) := hid (Nat.le_trans Q8.out.size hs5)
          obtain ⟨D, hD⟩ : ∃ D, laterZ now (dly draw.toNat k (mx : Int).toNat : Nat) = D := ⟨_, rfl⟩
          rw [hD] at HB5
          have HDD := hid hD
          have HC1 := hid (o5.keep c1W)
          clear c1W hb5 o5 hs5 hD
          go_wp2_with fail
          cases mp with
          | none =>
            refine wp_region_noPanic ?_
            refine rgn.regionT (R := Only []) (by kernel_rfl) (Only.refl []) (fun _ _ _ => Only.trans) (fun _ _ _ _ _ h => h) (.y 0 (.y 1 (.y 2 (.y 3 (.y 4 (.y 5 (.y 6 (.y 7 (.y 8 (.y 9 (.y 10 (.y 11 (.y 12 (.y 13 (.y 14 (.y 15 (.y 16 .z))))))))))))))))) (by kernel_rfl) (fun W2 hWd => ?_)
            have HWd := hid hWd; clear hWd
            have q9 : Only [] w5 W2 := Only.eq_drew (Only.refl [] _) HWd.out
            have Q9 := hid (Q5.out.trans q9); have HC9 := hid (q9.keep HC1.out); have HB9 := hid (HB5.out.only q9 (by simp)); have OB9 := hid (OB5.out.only q9 (by simp)); have HO9 := hid (HO5.out.only q9 (by simp))
            clear q9 HWd
            refine rgn.Walk.ys (v := ?_) rfl rfl rfl ?_ ?_
            rotate_left 1
            · intro W' hW'
              go_simp
              try with_reducible rfl
            try simp only [Act.put, List.setIfInBounds_toArray, List.set_cons_zero, List.set_cons_succ]
            refine rgn.Walk.ys (v := ?_) rfl rfl rfl ?_ ?_
            rotate_left 1
            · intro W' hW'
              go_simp
              try with_reducible rfl
            try simp only [Act.put, List.setIfInBounds_toArray, List.set_cons_zero, List.set_cons_succ]
            refine rgn.Walk.ys (v := ?_) rfl rfl rfl ?_ ?_
            rotate_left 1
            · intro W' hW'
              go_simp
              try with_reducible rfl
            try simp only [Act.put, List.setIfInBounds_toArray, List.set_cons_zero, List.set_cons_succ]
            refine rgn.Walk.ys (v := ?_) rfl rfl rfl ?_ ?_
            rotate_left 1
            · intro W' hW'
              have q0 := hW'.keep (show W2.cell? ⟨gb, k * 3 + 1, none⟩ = some (.pointer none) from HC9.out)
              go_simp
              try with_reducible rfl
            try simp only [Act.put, List.setIfInBounds_toArray, List.set_cons_zero, List.set_cons_succ]
            refine rgn.Walk.ys (v := ?_) rfl rfl rfl ?_ ?_
            rotate_left 1
            · intro W' hW'
              go_simp
              try with_reducible rfl
            try simp only [Act.put, List.setIfInBounds_toArray, List.set_cons_zero, List.set_cons_succ]
            refine rgn.Walk.ys (v := ?_) rfl rfl rfl ?_ ?_
            rotate_left 1
            · intro W' hW'
              go_simp
              try with_reducible rfl
            try simp only [Act.put, List.setIfInBounds_toArray, List.set_cons_zero, List.set_cons_succ]
            refine rgn.Walk.yn rfl rfl rfl ?_
            try simp only [Act.put, List.setIfInBounds_toArray, List.set_cons_zero, List.set_cons_succ]
            refine rgn.Walk.yn rfl rfl rfl ?_
            try simp only [Act.put, List.setIfInBounds_toArray, List.set_cons_zero, List.set_cons_succ]
            refine rgn.Walk.yn rfl rfl rfl ?_
            try simp only [Act.put, List.setIfInBounds_toArray, List.set_cons_zero, List.set_cons_succ]
            refine rgn.Walk.yn rfl rfl rfl ?_
            try simp only [Act.put, List.setIfInBounds_toArray, List.set_cons_zero, List.set_cons_succ]
            refine rgn.Walk.yn rfl rfl rfl ?_
            try simp only [Act.put, List.setIfInBounds_toArray, List.set_cons_zero, List.set_cons_succ]
            refine rgn.Walk.yn rfl rfl rfl ?_
            try simp only [Act.put, List.setIfInBounds_toArray, List.set_cons_zero, List.set_cons_succ]
            refine rgn.Walk.yn rfl rfl rfl ?_
            try simp only [Act.put, List.setIfInBounds_toArray, List.set_cons_zero, List.set_cons_succ]
            refine rgn.Walk.yn rfl rfl rfl ?_
            try simp only [Act.put, List.setIfInBounds_toArray, List.set_cons_zero, List.set_cons_succ]
            refine rgn.Walk.yn rfl rfl rfl ?_
            try simp only [Act.put, List.setIfInBounds_toArray, List.set_cons_zero, List.set_cons_succ]
            refine rgn.Walk.yn rfl rfl rfl ?_
            try simp only [Act.put, List.setIfInBounds_toArray, List.set_cons_zero, List.set_cons_succ]
            refine rgn.Walk.ys (v := ?_) rfl rfl rfl ?_ ?_
            rotate_left 1
            · intro W' hW'
              go_simp
              try with_reducible rfl
            try simp only [Act.put, List.setIfInBounds_toArray, List.set_cons_zero, List.set_cons_succ]
            refine rgn.Walk.zs (NoPanic.normal ?_)
            have kc := HC9.out
            have fc := (HCU.out.only Q9.out (by simp)).frozen (k * 3 + 1)
            obtain ⟨WS, hWS⟩ : ∃ WS, W2.setCell ⟨gb, k * 3 + 1, none⟩ (.pointer (some ⟨b, 0, none⟩)) = WS := ⟨_, rfl⟩
            have HF9 : Hid (qry grp mx now draw k ((M.map (Mb.ab dz))[k]'(by simpa using HKK.out)) = ⟨(M'[k]'(by have := HKM.out; omega)).g, some D, (M'[k]'(by have := HKM.out; omega)).o⟩) := hid (by
              rw [← HA1.out, HMM.out]
              unfold qry Mb.ab
              rw [if_neg HNC.out]
              simp only [Option.map]
              rw [HDD.out])
            have HI2 : Hid (QI w WS B (.slice (some ⟨gb, 0, none⟩) n c) M dz (qry grp mx now draw) (k + 1)) := hid (QI.put hWS HKK.out H1.out H2.out H3.out H4.out H5.out H6.out Q9.out HB9.out HBL.out HF9.out)
            have HO2 : Hid (Ob WS g 46 _) := hid (by rw [← hWS]; exact HO9.out.far (p := ⟨gb, k * 3 + 1, none⟩) (fun e => HNV.out (by rw [e]; rfl)) _)
            have OB2 : Hid (Ob WS w.heap.size 25 _) := hid (by rw [← hWS]; exact OB9.out.far (p := ⟨gb, k * 3 + 1, none⟩) (fun e => HNB.out (by rw [e]; rfl)) _)
            go_wp2_with fail
            go_roundw
            case rel => exact ⟨k + 1, by omega, by first | rfl | go_num, HI2, HO2, OB2⟩
            case measure => simp [RowKit.intOf]; omega
          | some q =>
            have HDq := hid (HDu.out q rfl)
            obtain ⟨X, hX⟩ : ∃ X, dz' q = X := ⟨_, rfl⟩
            have HX := hid hX
            rw [hX] at HDq
            clear hX
            by_cases hl : D < X
            · have zl : decide (D < X) = true := decide_eq_true hl
              refine wp_region_noPanic ?_
              refine rgn.regionT (R := Only []) (by kernel_rfl) (Only.refl []) (fun _ _ _ => Only.trans) (fun _ _ _ _ _ h => h) (.y 0 (.y 1 (.y 2 (.y 3 (.y 4 (.y 5 (.y 6 (.y 7 (.y 8 (.y 9 (.y 10 (.y 11 (.y 12 (.y 13 (.y 14 (.y 15 (.y 16 .z))))))))))))))))) (by kernel_rfl) (fun W2 hWd => ?_)
              have HWd := hid hWd; clear hWd
              have q9 : Only [] w5 W2 := Only.eq_drew (Only.refl [] _) HWd.out
              have Q9 := hid (Q5.out.trans q9); have HC9 := hid (q9.keep HC1.out); have HB9 := hid (HB5.out.only q9 (by simp)); have OB9 := hid (OB5.out.only q9 (by simp)); have HO9 := hid (HO5.out.only q9 (by simp))
              have HD9 := hid (HDq.out.only Q9.out (by simp))
              clear q9 HWd
              refine rgn.Walk.ys (v := ?_) rfl rfl rfl ?_ ?_
              rotate_left 1
              · intro W' hW'
                go_simp
                try with_reducible rfl
              try simp only [Act.put, List.setIfInBounds_toArray, List.set_cons_zero, List.set_cons_succ]
              refine rgn.Walk.ys (v := ?_) rfl rfl rfl ?_ ?_
              rotate_left 1
              · intro W' hW'
                go_simp
                try with_reducible rfl
              try simp only [Act.put, List.setIfInBounds_toArray, List.set_cons_zero, List.set_cons_succ]
              refine rgn.Walk.ys (v := ?_) rfl rfl rfl ?_ ?_
              rotate_left 1
              · intro W' hW'
                go_simp
                try with_reducible rfl
              try simp only [Act.put, List.setIfInBounds_toArray, List.set_cons_zero, List.set_cons_succ]
              refine rgn.Walk.ys (v := ?_) rfl rfl rfl ?_ ?_
              rotate_left 1
              · intro W' hW'
                have q0 := hW'.keep (show W2.cell? ⟨gb, k * 3 + 1, none⟩ = some (.pointer (some ⟨q, 0, none⟩)) from HC9.out)
                go_simp
                try with_reducible rfl
              try simp only [Act.put, List.setIfInBounds_toArray, List.set_cons_zero, List.set_cons_succ]
              refine rgn.Walk.ys (v := ?_) rfl rfl rfl ?_ ?_
              rotate_left 1
              · intro W' hW'
                go_simp
                try with_reducible rfl
              try simp only [Act.put, List.setIfInBounds_toArray, List.set_cons_zero, List.set_cons_succ]
              refine rgn.Walk.ys (v := ?_) rfl rfl rfl ?_ ?_
              rotate_left 1
              · intro W' hW'
                go_simp
                try with_reducible rfl
              try simp only [Act.put, List.setIfInBounds_toArray, List.set_cons_zero, List.set_cons_succ]
              refine rgn.Walk.ys (v := ?_) rfl rfl rfl ?_ ?_
              rotate_left 1
              · intro W' hW'
                go_simp
                try with_reducible rfl
              try simp only [Act.put, List.setIfInBounds_toArray, List.set_cons_zero, List.set_cons_succ]
              refine rgn.Walk.ys (v := ?_) rfl rfl rfl ?_ ?_
              rotate_left 1
              · intro W' hW'
                go_simp
                try with_reducible rfl
              try simp only [Act.put, List.setIfInBounds_toArray, List.set_cons_zero, List.set_cons_succ]
              refine rgn.Walk.ys (v := ?_) rfl rfl rfl ?_ ?_
              rotate_left 1
              · intro W' hW'
                go_simp
                try with_reducible rfl
              try simp only [Act.put, List.setIfInBounds_toArray, List.set_cons_zero, List.set_cons_succ]
              refine rgn.Walk.ys (v := ?_) rfl rfl rfl ?_ ?_
              rotate_left 1
              · intro W' hW'
                have q0 := hW'.keep (show W2.cell? ⟨gb, k * 3 + 1, none⟩ = some (.pointer (some ⟨q, 0, none⟩)) from HC9.out)
                go_simp
                try with_reducible rfl
              try simp only [Act.put, List.setIfInBounds_toArray, List.set_cons_zero, List.set_cons_succ]
              refine rgn.Walk.ys (v := ?_) rfl rfl rfl ?_ ?_
              rotate_left 1
              · intro W' hW'
                go_simp
                try with_reducible rfl
              try simp only [Act.put, List.setIfInBounds_toArray, List.set_cons_zero, List.set_cons_succ]
              refine rgn.Walk.ys (v := ?_) rfl rfl rfl ?_ ?_
              rotate_left 1
              · intro W' hW'
                have q0 := hW'.keep (HD9.out.cell 0)
                go_simp
                try with_reducible rfl
              try simp only [Act.put, List.setIfInBounds_toArray, List.set_cons_zero, List.set_cons_succ]
              refine rgn.Walk.ys (v := ?_) rfl rfl rfl ?_ ?_
              rotate_left 1
              · intro W' hW'
                go_simp
                try with_reducible rfl
              try simp only [Act.put, List.setIfInBounds_toArray, List.set_cons_zero, List.set_cons_succ]
              refine rgn.Walk.ys (v := ?_) rfl rfl rfl ?_ ?_
              rotate_left 1
              · intro W' hW'
                go_simp
                try with_reducible rfl
              try simp only [Act.put, List.setIfInBounds_toArray, List.set_cons_zero, List.set_cons_succ]
              refine rgn.Walk.ys (v := ?_) rfl rfl rfl ?_ ?_
              rotate_left 1
              · intro W' hW'
                have q0 := hW'.keep (HB9.out.cell 0)
                go_simp
                try with_reducible rfl
              try simp only [Act.put, List.setIfInBounds_toArray, List.set_cons_zero, List.set_cons_succ]
              refine rgn.Walk.ys (v := ?_) rfl rfl rfl ?_ ?_
              rotate_left 1
              · intro W' hW'
                have zz := zl
                go_simp
                try with_reducible rfl
              try simp only [Act.put, List.setIfInBounds_toArray, List.set_cons_zero, List.set_cons_succ]
              refine rgn.Walk.ys (v := ?_) rfl rfl rfl ?_ ?_
              rotate_left 1
              · intro W' hW'
                go_simp
                try with_reducible rfl
              try simp only [Act.put, List.setIfInBounds_toArray, List.set_cons_zero, List.set_cons_succ]
              refine rgn.Walk.zs (NoPanic.normal ?_)
              have kc := HC9.out
              have fc := (HCU.out.only Q9.out (by simp)).frozen (k * 3 + 1)
              obtain ⟨WS, hWS⟩ : ∃ WS, W2.setCell ⟨gb, k * 3 + 1, none⟩ (.pointer (some ⟨b, 0, none⟩)) = WS := ⟨_, rfl⟩
              have HF9 : Hid (qry grp mx now draw k ((M.map (Mb.ab dz))[k]'(by simpa using HKK.out)) = ⟨(M'[k]'(by have := HKM.out; omega)).g, some D, (M'[k]'(by have := HKM.out; omega)).o⟩) := hid (by
                rw [← HA1.out, HMM.out]
                unfold qry Mb.ab
                rw [if_neg HNC.out]
                simp only [Option.map]
                rw [HDD.out, HX.out, if_pos hl])
              have HI2 : Hid (QI w WS B (.slice (some ⟨gb, 0, none⟩) n c) M dz (qry grp mx now draw) (k + 1)) := hid (QI.put hWS HKK.out H1.out H2.out H3.out H4.out H5.out H6.out Q9.out HB9.out HBL.out HF9.out)
              have HO2 : Hid (Ob WS g 46 _) := hid (by rw [← hWS]; exact HO9.out.far (p := ⟨gb, k * 3 + 1, none⟩) (fun e => HNV.out (by rw [e]; rfl)) _)
              have OB2 : Hid (Ob WS w.heap.size 25 _) := hid (by rw [← hWS]; exact OB9.out.far (p := ⟨gb, k * 3 + 1, none⟩) (fun e => HNB.out (by rw [e]; rfl)) _)
              go_wp2_with fail
              go_roundw
              case rel => exact ⟨k + 1, by omega, by first | rfl | go_num, HI2, HO2, OB2⟩
              case measure => simp [RowKit.intOf]; omega
            · have zl : decide (D < X) = false := decide_eq_false hl
              refine wp_region_noPanic ?_
              refine rgn.regionT (R := Only []) (by kernel_rfl) (Only.refl []) (fun _ _ _ => Only.trans) (fun _ _ _ _ _ h => h) (.y 0 (.y 1 (.y 2 (.y 3 (.y 4 (.y 5 (.y 6 (.y 7 (.y 8 (.y 9 (.y 10 (.y 11 (.y 12 (.y 13 (.y 14 (.y 15 (.y 16 .z))))))))))))))))) (by kernel_rfl) (fun W2 hWd => ?_)
              have HWd := hid hWd; clear hWd
              have q9 : Only [] w5 W2 := Only.eq_drew (Only.refl [] _) HWd.out
              have Q9 := hid (Q5.out.trans q9); have HC9 := hid (q9.keep HC1.out); have HB9 := hid (HB5.out.only q9 (by simp)); have OB9 := hid (OB5.out.only q9 (by simp)); have HO9 := hid (HO5.out.only q9 (by simp))
              have HD9 := hid (HDq.out.only Q9.out (by simp))
              clear q9 HWd
              refine rgn.Walk.ys (v := ?_) rfl rfl rfl ?_ ?_
              rotate_left 1
              · intro W' hW'
                go_simp
                try with_reducible rfl
              try simp only [Act.put, List.setIfInBounds_toArray, List.set_cons_zero, List.set_cons_succ]
              refine rgn.Walk.ys (v := ?_) rfl rfl rfl ?_ ?_
              rotate_left 1
              · intro W' hW'
                go_simp
                try with_reducible rfl
              try simp only [Act.put, List.setIfInBounds_toArray, List.set_cons_zero, List.set_cons_succ]
              refine rgn.Walk.ys (v := ?_) rfl rfl rfl ?_ ?_
              rotate_left 1
              · intro W' hW'
                go_simp
                try with_reducible rfl
              try simp only [Act.put, List.setIfInBounds_toArray, List.set_cons_zero, List.set_cons_succ]
              refine rgn.Walk.ys (v := ?_) rfl rfl rfl ?_ ?_
              rotate_left 1
              · intro W' hW'
                have q0 := hW'.keep (show W2.cell? ⟨gb, k * 3 + 1, none⟩ = some (.pointer (some ⟨q, 0, none⟩)) from HC9.out)
                go_simp
                try with_reducible rfl
              try simp only [Act.put, List.setIfInBounds_toArray, List.set_cons_zero, List.set_cons_succ]
              refine rgn.Walk.ys (v := ?_) rfl rfl rfl ?_ ?_
              rotate_left 1
              · intro W' hW'
                go_simp
                try with_reducible rfl
              try simp only [Act.put, List.setIfInBounds_toArray, List.set_cons_zero, List.set_cons_succ]
              refine rgn.Walk.ys (v := ?_) rfl rfl rfl ?_ ?_
              rotate_left 1
              · intro W' hW'
                go_simp
                try with_reducible rfl
              try simp only [Act.put, List.setIfInBounds_toArray, List.set_cons_zero, List.set_cons_succ]
              refine rgn.Walk.ys (v := ?_) rfl rfl rfl ?_ ?_
              rotate_left 1
              · intro W' hW'
                go_simp
                try with_reducible rfl
              try simp only [Act.put, List.setIfInBounds_toArray, List.set_cons_zero, List.set_cons_succ]
              refine rgn.Walk.ys (v := ?_) rfl rfl rfl ?_ ?_
              rotate_left 1
              · intro W' hW'
                go_simp
                try with_reducible rfl
              try simp only [Act.put, List.setIfInBounds_toArray, List.set_cons_zero, List.set_cons_succ]
              refine rgn.Walk.ys (v := ?_) rfl rfl rfl ?_ ?_
              rotate_left 1
              · intro W' hW'
                go_simp
                try with_reducible rfl
              try simp only [Act.put, List.setIfInBounds_toArray, List.set_cons_zero, List.set_cons_succ]
              refine rgn.Walk.ys (v := ?_) rfl rfl rfl ?_ ?_
              rotate_left 1
              · intro W' hW'
                have q0 := hW'.keep (show W2.cell? ⟨gb, k * 3 + 1, none⟩ = some (.pointer (some ⟨q, 0, none⟩)) from HC9.out)
                go_simp
                try with_reducible rfl
              try simp only [Act.put, List.setIfInBounds_toArray, List.set_cons_zero, List.set_cons_succ]
              refine rgn.Walk.ys (v := ?_) rfl rfl rfl ?_ ?_
              rotate_left 1
              · intro W' hW'
                go_simp
                try with_reducible rfl
              try simp only [Act.put, List.setIfInBounds_toArray, List.set_cons_zero, List.set_cons_succ]
              refine rgn.Walk.ys (v := ?_) rfl rfl rfl ?_ ?_
              rotate_left 1
              · intro W' hW'
                have q0 := hW'.keep (HD9.out.cell 0)
                go_simp
                try with_reducible rfl
              try simp only [Act.put, List.setIfInBounds_toArray, List.set_cons_zero, List.set_cons_succ]
              refine rgn.Walk.ys (v := ?_) rfl rfl rfl ?_ ?_
              rotate_left 1
              · intro W' hW'
                go_simp
                try with_reducible rfl
              try simp only [Act.put, List.setIfInBounds_toArray, List.set_cons_zero, List.set_cons_succ]
              refine rgn.Walk.ys (v := ?_) rfl rfl rfl ?_ ?_
              rotate_left 1
              · intro W' hW'
                go_simp
                try with_reducible rfl
              try simp only [Act.put, List.setIfInBounds_toArray, List.set_cons_zero, List.set_cons_succ]
              refine rgn.Walk.ys (v := ?_) rfl rfl rfl ?_ ?_
              rotate_left 1
              · intro W' hW'
                have q0 := hW'.keep (HB9.out.cell 0)
                go_simp
                try with_reducible rfl
              try simp only [Act.put, List.setIfInBounds_toArray, List.set_cons_zero, List.set_cons_succ]
              refine rgn.Walk.ys (v := ?_) rfl rfl rfl ?_ ?_
              rotate_left 1
              · intro W' hW'
                have zz := zl
                go_simp
                try with_reducible rfl
              try simp only [Act.put, List.setIfInBounds_toArray, List.set_cons_zero, List.set_cons_succ]
              refine rgn.Walk.ys (v := ?_) rfl rfl rfl ?_ ?_
              rotate_left 1
              · intro W' hW'
                go_simp
                try with_reducible rfl
              try simp only [Act.put, List.setIfInBounds_toArray, List.set_cons_zero, List.set_cons_succ]
              refine rgn.Walk.zs (NoPanic.normal ?_)
              have HI2 : Hid (QI w W2 B (.slice (some ⟨gb, 0, none⟩) n c) M dz (qry grp mx now draw) (k + 1)) := hid (QI.skip ⟨M', dz', H1.out, H2.out, H3.out, H4.out, H5.out, H6.out⟩ Q9.out HKK.out (by
                rw [← HA1.out]
                unfold qry Mb.ab
                rw [if_neg HNC.out]
                simp only [Option.map]
                rw [HDD.out, HX.out, if_neg hl]))
              clear hl zl
              go_wp2_with fail
              go_roundw
              case rel => exact ⟨k + 1, by omega, by first | rfl | go_num, HI2, HO9, OB9⟩
              case measure => simp [RowKit.intOf]; omega
        · have z1 : (grp != 0) = true := by simpa using hg0
          by_cases hg1 : grp = mg
          · have z2 : (grp != mg) = false := by simpa using hg1
            have HG1 := hid hg1
            clear hg1
            refine wp_region_noPanic ?_
            refine rgn.regionT (R := Only []) (by kernel_rfl) (Only.refl []) (fun _ _ _ => Only.trans) (fun _ _ _ _ _ h => h) (.y 0 (.y 1 (.y 2 (.y 3 (.y 4 (.y 5 (.y 6 (.y 7 (.y 8 (.y 9 (.y 10 (.y 11 .z)))))))))))) (by kernel_rfl) (fun W hWd => ?_)
            have HWd := hid hWd; clear hWd
            have q8 : Only [] wr W := Only.eq_drew (Only.refl [] _) HWd.out
            have OBW := hid (OB.out.only q8 (by simp)); have Q8 := hid q8
            clear q8 HWd
            refine rgn.Walk.ys (v := ?_) rfl rfl rfl ?_ ?_
            rotate_left 1
            · intro W' hW'
              go_simp
              try with_reducible rfl
            try simp only [Act.put, List.setIfInBounds_toArray, List.set_cons_zero, List.set_cons_succ]
            refine rgn.Walk.ys (v := ?_) rfl rfl rfl ?_ ?_
            rotate_left 1
            · intro W' hW'
              have q0 := hW'.keep (OBW.out.cell 2)
              go_simp
              try with_reducible rfl
            try simp only [Act.put, List.setIfInBounds_toArray, List.set_cons_zero, List.set_cons_succ]
            refine rgn.Walk.ys (v := ?_) rfl rfl rfl ?_ ?_
            rotate_left 1
            · intro W' hW'
              go_simp
              try with_reducible rfl
            try simp only [Act.put, List.setIfInBounds_toArray, List.set_cons_zero, List.set_cons_succ]
            refine rgn.Walk.ys (v := ?_) rfl rfl rfl ?_ ?_
            rotate_left 1
            · intro W' hW'
              go_simp
              try with_reducible rfl
            try simp only [Act.put, List.setIfInBounds_toArray, List.set_cons_zero, List.set_cons_succ]
            refine rgn.Walk.ys (v := ?_) rfl rfl rfl ?_ ?_
            rotate_left 1
            · intro W' hW'
              go_simp
              try with_reducible rfl
            try simp only [Act.put, List.setIfInBounds_toArray, List.set_cons_zero, List.set_cons_succ]
            refine rgn.Walk.ys (v := ?_) rfl rfl rfl ?_ ?_
            rotate_left 1
            · intro W' hW'
              have q0 := hW'.keep (OBW.out.cell 2)
              go_simp
              try with_reducible rfl
            try simp only [Act.put, List.setIfInBounds_toArray, List.set_cons_zero, List.set_cons_succ]
            refine rgn.Walk.ys (v := ?_) rfl rfl rfl ?_ ?_
            rotate_left 1
            · intro W' hW'
              go_simp
              try with_reducible rfl
            try simp only [Act.put, List.setIfInBounds_toArray, List.set_cons_zero, List.set_cons_succ]
            refine rgn.Walk.ys (v := ?_) rfl rfl rfl ?_ ?_
            rotate_left 1
            · intro W' hW'
              go_simp
              try with_reducible rfl
            try simp only [Act.put, List.setIfInBounds_toArray, List.set_cons_zero, List.set_cons_succ]
            refine rgn.Walk.ys (v := ?_) rfl rfl rfl ?_ ?_
            rotate_left 1
            · intro W' hW'
              go_simp
              try with_reducible rfl
            try simp only [Act.put, List.setIfInBounds_toArray, List.set_cons_zero, List.set_cons_succ]
            refine rgn.Walk.ys (v := ?_) rfl rfl rfl ?_ ?_
            rotate_left 1
            · intro W' hW'
              have q0 := (Q8.out.trans hW').keep HC0.out
              go_simp
              try with_reducible rfl
            try simp only [Act.put, List.setIfInBounds_toArray, List.set_cons_zero, List.set_cons_succ]
            refine rgn.Walk.ys (v := ?_) rfl rfl rfl ?_ ?_
            rotate_left 1
            · intro W' hW'
              go_simp
              try with_reducible rfl
            try simp only [Act.put, List.setIfInBounds_toArray, List.set_cons_zero, List.set_cons_succ]
            refine rgn.Walk.ys (v := ?_) rfl rfl rfl ?_ ?_
            rotate_left 1
            · intro W' hW'
              go_simp
              try with_reducible rfl
            try simp only [Act.put, List.setIfInBounds_toArray, List.set_cons_zero, List.set_cons_succ]
            refine rgn.Walk.zs (NoPanic.normal ?_)
            have HNC : Hid (¬ (grp ≠ 0 ∧ grp ≠ mg)) := hid (by first | omega | (have := HG1.out; omega))
            have HOW := hid (HO.out.only Q8.out (by simp)); have HCW := hid (HC0.out)
            have c1W := Q8.out.keep c1
            clear hg0 z1 z2
            go_wp2_with fail
            refine (delayed1 W now draw mx k hnow hdr (by omega) (by omega)).mono ?_
            rintro x w5 ⟨b, rfl, hb5, o5, hs5⟩
            rw [show (max (mx : Int) 1).toNat = (mx : Int).toNat from by omega] at hb5
            have Q5 := hid (Q8.out.trans o5); have OB5 := hid (OBW.out.only o5 (by simp)); have HO5 := hid (HOW.out.only o5 (by simp)); have HB5 := hid hb5; have HBL : Hid (wr.heap.size ≤ b) := hid (Nat.le_trans Q8.out.size hs5)
            obtain ⟨D, hD⟩ : ∃ D, laterZ now (dly draw.toNat k (mx : Int).toNat : Nat) = D := ⟨_, rfl⟩
            rw [hD] at HB5
            have HDD := hid hD
            have HC1 := hid (o5.keep c1W)
            clear c1W hb5 o5 hs5 hD
            go_wp2_with fail
            cases mp with
            | none =>
              refine wp_region_noPanic ?_
              refine rgn.regionT (R := Only []) (by kernel_rfl) (Only.refl []) (fun _ _ _ => Only.trans) (fun _ _ _ _ _ h => h) (.y 0 (.y 1 (.y 2 (.y 3 (.y 4 (.y 5 (.y 6 (.y 7 (.y 8 (.y 9 (.y 10 (.y 11 (.y 12 (.y 13 (.y 14 (.y 15 (.y 16 .z))))))))))))))))) (by kernel_rfl) (fun W2 hWd => ?_)
              have HWd := hid hWd; clear hWd
              have q9 : Only [] w5 W2 := Only.eq_drew (Only.refl [] _) HWd.out
              have Q9 := hid (Q5.out.trans q9); have HC9 := hid (q9.keep HC1.out); have HB9 := hid (HB5.out.only q9 (by simp)); have OB9 := hid (OB5.out.only q9 (by simp)); have HO9 := hid (HO5.out.only q9 (by simp))
              clear q9 HWd
              refine rgn.Walk.ys (v := ?_) rfl rfl rfl ?_ ?_
              rotate_left 1
              · intro W' hW'
                go_simp
                try with_reducible rfl
              try simp only [Act.put, List.setIfInBounds_toArray, List.set_cons_zero, List.set_cons_succ]
              refine rgn.Walk.ys (v := ?_) rfl rfl rfl ?_ ?_
              rotate_left 1
              · intro W' hW'
                go_simp
                try with_reducible rfl
              try simp only [Act.put, List.setIfInBounds_toArray, List.set_cons_zero, List.set_cons_succ]
              refine rgn.Walk.ys (v := ?_) rfl rfl rfl ?_ ?_
              rotate_left 1
              · intro W' hW'
                go_simp
                try with_reducible rfl
              try simp only [Act.put, List.setIfInBounds_toArray, List.set_cons_zero, List.set_cons_succ]
              refine rgn.Walk.ys (v := ?_) rfl rfl rfl ?_ ?_
              rotate_left 1
              · intro W' hW'
                have q0 := hW'.keep (show W2.cell? ⟨gb, k * 3 + 1, none⟩ = some (.pointer none) from HC9.out)
                go_simp
                try with_reducible rfl
              try simp only [Act.put, List.setIfInBounds_toArray, List.set_cons_zero, List.set_cons_succ]
              refine rgn.Walk.ys (v := ?_) rfl rfl rfl ?_ ?_
              rotate_left 1
              · intro W' hW'
                go_simp
                try with_reducible rfl
              try simp only [Act.put, List.setIfInBounds_toArray, List.set_cons_zero, List.set_cons_succ]
              refine rgn.Walk.ys (v := ?_) rfl rfl rfl ?_ ?_
              rotate_left 1
              · intro W' hW'
                go_simp
                try with_reducible rfl
              try simp only [Act.put, List.setIfInBounds_toArray, List.set_cons_zero, List.set_cons_succ]
              refine rgn.Walk.yn rfl rfl rfl ?_
              try simp only [Act.put, List.setIfInBounds_toArray, List.set_cons_zero, List.set_cons_succ]
              refine rgn.Walk.yn rfl rfl rfl ?_
              try simp only [Act.put, List.setIfInBounds_toArray, List.set_cons_zero, List.set_cons_succ]
              refine rgn.Walk.yn rfl rfl rfl ?_
              try simp only [Act.put, List.setIfInBounds_toArray, List.set_cons_zero, List.set_cons_succ]
              refine rgn.Walk.yn rfl rfl rfl ?_
              try simp only [Act.put, List.setIfInBounds_toArray, List.set_cons_zero, List.set_cons_succ]
              refine rgn.Walk.yn rfl rfl rfl ?_
              try simp only [Act.put, List.setIfInBounds_toArray, List.set_cons_zero, List.set_cons_succ]
              refine rgn.Walk.yn rfl rfl rfl ?_
              try simp only [Act.put, List.setIfInBounds_toArray, List.set_cons_zero, List.set_cons_succ]
              refine rgn.Walk.yn rfl rfl rfl ?_
              try simp only [Act.put, List.setIfInBounds_toArray, List.set_cons_zero, List.set_cons_succ]
              refine rgn.Walk.yn rfl rfl rfl ?_
              try simp only [Act.put, List.setIfInBounds_toArray, List.set_cons_zero, List.set_cons_succ]
              refine rgn.Walk.yn rfl rfl rfl ?_
              try simp only [Act.put, List.setIfInBounds_toArray, List.set_cons_zero, List.set_cons_succ]
              refine rgn.Walk.yn rfl rfl rfl ?_
              try simp only [Act.put, List.setIfInBounds_toArray, List.set_cons_zero, List.set_cons_succ]
              refine rgn.Walk.ys (v := ?_) rfl rfl rfl ?_ ?_
              rotate_left 1
              · intro W' hW'
                go_simp
                try with_reducible rfl
              try simp only [Act.put, List.setIfInBounds_toArray, List.set_cons_zero, List.set_cons_succ]
              refine rgn.Walk.zs (NoPanic.normal ?_)
              have kc := HC9.out
              have fc := (HCU.out.only Q9.out (by simp)).frozen (k * 3 + 1)
              obtain ⟨WS, hWS⟩ : ∃ WS, W2.setCell ⟨gb, k * 3 + 1, none⟩ (.pointer (some ⟨b, 0, none⟩)) = WS := ⟨_, rfl⟩
              have HF9 : Hid (qry grp mx now draw k ((M.map (Mb.ab dz))[k]'(by simpa using HKK.out)) = ⟨(M'[k]'(by have := HKM.out; omega)).g, some D, (M'[k]'(by have := HKM.out; omega)).o⟩) := hid (by
                rw [← HA1.out, HMM.out]
                unfold qry Mb.ab
                rw [if_neg HNC.out]
                simp only [Option.map]
                rw [HDD.out])
              have HI2 : Hid (QI w WS B (.slice (some ⟨gb, 0, none⟩) n c) M dz (qry grp mx now draw) (k + 1)) := hid (QI.put hWS HKK.out H1.out H2.out H3.out H4.out H5.out H6.out Q9.out HB9.out HBL.out HF9.out)
              have HO2 : Hid (Ob WS g 46 _) := hid (by rw [← hWS]; exact HO9.out.far (p := ⟨gb, k * 3 + 1, none⟩) (fun e => HNV.out (by rw [e]; rfl)) _)
              have OB2 : Hid (Ob WS w.heap.size 25 _) := hid (by rw [← hWS]; exact OB9.out.far (p := ⟨gb, k * 3 + 1, none⟩) (fun e => HNB.out (by rw [e]; rfl)) _)
              go_wp2_with fail
              go_roundw
              case rel => exact ⟨k + 1, by omega, by first | rfl | go_num, HI2, HO2, OB2⟩
              case measure => simp [RowKit.intOf]; omega
            | some q =>
              have HDq := hid (HDu.out q rfl)
              obtain ⟨X, hX⟩ : ∃ X, dz' q = X := ⟨_, rfl⟩
              have HX := hid hX
              rw [hX] at HDq
              clear hX
              by_cases hl : D < X
              · have zl : decide (D < X) = true := decide_eq_true hl
                refine wp_region_noPanic ?_
                refine rgn.regionT (R := Only []) (by kernel_rfl) (Only.refl []) (fun _ _ _ => Only.trans) (fun _ _ _ _ _ h => h) (.y 0 (.y 1 (.y 2 (.y 3 (.y 4 (.y 5 (.y 6 (.y 7 (.y 8 (.y 9 (.y 10 (.y 11 (.y 12 (.y 13 (.y 14 (.y 15 (.y 16 .z))))))))))))))))) (by kernel_rfl) (fun W2 hWd => ?_)
                have HWd := hid hWd; clear hWd
                have q9 : Only [] w5 W2 := Only.eq_drew (Only.refl [] _) HWd.out
                have Q9 := hid (Q5.out.trans q9); have HC9 := hid (q9.keep HC1.out); have HB9 := hid (HB5.out.only q9 (by simp)); have OB9 := hid (OB5.out.only q9 (by simp)); have HO9 := hid (HO5.out.only q9 (by simp))
                have HD9 := hid (HDq.out.only Q9.out (by simp))
                clear q9 HWd
                refine rgn.Walk.ys (v := ?_) rfl rfl rfl ?_ ?_
                rotate_left 1
                · intro W' hW'
                  go_simp
                  try with_reducible rfl
                try simp only [Act.put, List.setIfInBounds_toArray, List.set_cons_zero, List.set_cons_succ]
                refine rgn.Walk.ys (v := ?_) rfl rfl rfl ?_ ?_
                rotate_left 1
                · intro W' hW'
                  go_simp
                  try with_reducible rfl
                try simp only [Act.put, List.setIfInBounds_toArray, List.set_cons_zero, List.set_cons_succ]
                refine rgn.Walk.ys (v := ?_) rfl rfl rfl ?_ ?_
                rotate_left 1
                · intro W' hW'
                  go_simp
                  try with_reducible rfl
                try simp only [Act.put, List.setIfInBounds_toArray, List.set_cons_zero, List.set_cons_succ]
                refine rgn.Walk.ys (v := ?_) rfl rfl rfl ?_ ?_
                rotate_left 1
                · intro W' hW'
                  have q0 := hW'.keep (show W2.cell? ⟨gb, k * 3 + 1, none⟩ = some (.pointer (some ⟨q, 0, none⟩)) from HC9.out)
                  go_simp
                  try with_reducible rfl
                try simp only [Act.put, List.setIfInBounds_toArray, List.set_cons_zero, List.set_cons_succ]
                refine rgn.Walk.ys (v := ?_) rfl rfl rfl ?_ ?_
                rotate_left 1
                · intro W' hW'
                  go_simp
                  try with_reducible rfl
                try simp only [Act.put, List.setIfInBounds_toArray, List.set_cons_zero, List.set_cons_succ]
                refine rgn.Walk.ys (v := ?_) rfl rfl rfl ?_ ?_
                rotate_left 1
                · intro W' hW'
                  go_simp
                  try with_reducible rfl
                try simp only [Act.put, List.setIfInBounds_toArray, List.set_cons_zero, List.set_cons_succ]
                refine rgn.Walk.ys (v := ?_) rfl rfl rfl ?_ ?_
                rotate_left 1
                · intro W' hW'
                  go_simp
                  try with_reducible rfl
                try simp only [Act.put, List.setIfInBounds_toArray, List.set_cons_zero, List.set_cons_succ]
                refine rgn.Walk.ys (v := ?_) rfl rfl rfl ?_ ?_
                rotate_left 1
                · intro W' hW'
                  go_simp
                  try with_reducible rfl
                try simp only [Act.put, List.setIfInBounds_toArray, List.set_cons_zero, List.set_cons_succ]
                refine rgn.Walk.ys (v := ?_) rfl rfl rfl ?_ ?_
                rotate_left 1
                · intro W' hW'
                  go_simp
                  try with_reducible rfl
                try simp only [Act.put, List.setIfInBounds_toArray, List.set_cons_zero, List.set_cons_succ]
                refine rgn.Walk.ys (v := ?_) rfl rfl rfl ?_ ?_
                rotate_left 1
                · intro W' hW'
                  have q0 := hW'.keep (show W2.cell? ⟨gb, k * 3 + 1, none⟩ = some (.pointer (some ⟨q, 0, none⟩)) from HC9.out)
                  go_simp
                  try with_reducible rfl
                try simp only [Act.put, List.setIfInBounds_toArray, List.set_cons_zero, List.set_cons_succ]
                refine rgn.Walk.ys (v := ?_) rfl rfl rfl ?_ ?_
                rotate_left 1
                · intro W' hW'
                  go_simp
                  try with_reducible rfl
                try simp only [Act.put, List.setIfInBounds_toArray, List.set_cons_zero, List.set_cons_succ]
                refine rgn.Walk.ys (v := ?_) rfl rfl rfl ?_ ?_
                rotate_left 1
                · intro W' hW'
                  have q0 := hW'.keep (HD9.out.cell 0)
                  go_simp
                  try with_reducible rfl
                try simp only [Act.put, List.setIfInBounds_toArray, List.set_cons_zero, List.set_cons_succ]
                refine rgn.Walk.ys (v := ?_) rfl rfl rfl ?_ ?_
                rotate_left 1
                · intro W' hW'
                  go_simp
                  try with_reducible rfl
                try simp only [Act.put, List.setIfInBounds_toArray, List.set_cons_zero, List.set_cons_succ]
                refine rgn.Walk.ys (v := ?_) rfl rfl rfl ?_ ?_
                rotate_left 1
                · intro W' hW'
                  go_simp
                  try with_reducible rfl
                try simp only [Act.put, List.setIfInBounds_toArray, List.set_cons_zero, List.set_cons_succ]
                refine rgn.Walk.ys (v := ?_) rfl rfl rfl ?_ ?_
                rotate_left 1
                · intro W' hW'
                  have q0 := hW'.keep (HB9.out.cell 0)
                  go_simp
                  try with_reducible rfl
                try simp only [Act.put, List.setIfInBounds_toArray, List.set_cons_zero, List.set_cons_succ]
                refine rgn.Walk.ys (v := ?_) rfl rfl rfl ?_ ?_
                rotate_left 1
                · intro W' hW'
                  have zz := zl
                  go_simp
                  try with_reducible rfl
                try simp only [Act.put, List.setIfInBounds_toArray, List.set_cons_zero, List.set_cons_succ]
                refine rgn.Walk.ys (v := ?_) rfl rfl rfl ?_ ?_
                rotate_left 1
                · intro W' hW'
                  go_simp
                  try with_reducible rfl
                try simp only [Act.put, List.setIfInBounds_toArray, List.set_cons_zero, List.set_cons_succ]
                refine rgn.Walk.zs (NoPanic.normal ?_)
                have kc := HC9.out
                have fc := (HCU.out.only Q9.out (by simp)).frozen (k * 3 + 1)
                obtain ⟨WS, hWS⟩ : ∃ WS, W2.setCell ⟨gb, k * 3 + 1, none⟩ (.pointer (some ⟨b, 0, none⟩)) = WS := ⟨_, rfl⟩
                have HF9 : Hid (qry grp mx now draw k ((M.map (Mb.ab dz))[k]'(by simpa using HKK.out)) = ⟨(M'[k]'(by have := HKM.out; omega)).g, some D, (M'[k]'(by have := HKM.out; omega)).o⟩) := hid (by
                  rw [← HA1.out, HMM.out]
                  unfold qry Mb.ab
                  rw [if_neg HNC.out]
                  simp only [Option.map]
                  rw [HDD.out, HX.out, if_pos hl])
                have HI2 : Hid (QI w WS B (.slice (some ⟨gb, 0, none⟩) n c) M dz (qry grp mx now draw) (k + 1)) := hid (QI.put hWS HKK.out H1.out H2.out H3.out H4.out H5.out H6.out Q9.out HB9.out HBL.out HF9.out)
                have HO2 : Hid (Ob WS g 46 _) := hid (by rw [← hWS]; exact HO9.out.far (p := ⟨gb, k * 3 + 1, none⟩) (fun e => HNV.out (by rw [e]; rfl)) _)
                have OB2 : Hid (Ob WS w.heap.size 25 _) := hid (by rw [← hWS]; exact OB9.out.far (p := ⟨gb, k * 3 + 1, none⟩) (fun e => HNB.out (by rw [e]; rfl)) _)
                go_wp2_with fail
                go_roundw
                case rel => exact ⟨k + 1, by omega, by first | rfl | go_num, HI2, HO2, OB2⟩
                case measure => simp [RowKit.intOf]; omega
              · have zl : decide (D < X) = false := decide_eq_false hl
                refine wp_region_noPanic ?_
                refine rgn.regionT (R := Only []) (by kernel_rfl) (Only.refl []) (fun _ _ _ => Only.trans) (fun _ _ _ _ _ h => h) (.y 0 (.y 1 (.y 2 (.y 3 (.y 4 (.y 5 (.y 6 (.y 7 (.y 8 (.y 9 (.y 10 (.y 11 (.y 12 (.y 13 (.y 14 (.y 15 (.y 16 .z))))))))))))))))) (by kernel_rfl) (fun W2 hWd => ?_)
                have HWd := hid hWd; clear hWd
                have q9 : Only [] w5 W2 := Only.eq_drew (Only.refl [] _) HWd.out
                have Q9 := hid (Q5.out.trans q9); have HC9 := hid (q9.keep HC1.out); have HB9 := hid (HB5.out.only q9 (by simp)); have OB9 := hid (OB5.out.only q9 (by simp)); have HO9 := hid (HO5.out.only q9 (by simp))
                have HD9 := hid (HDq.out.only Q9.out (by simp))
                clear q9 HWd
                refine rgn.Walk.ys (v := ?_) rfl rfl rfl ?_ ?_
                rotate_left 1
                · intro W' hW'
                  go_simp
                  try with_reducible rfl
                try simp only [Act.put, List.setIfInBounds_toArray, List.set_cons_zero, List.set_cons_succ]
                refine rgn.Walk.ys (v := ?_) rfl rfl rfl ?_ ?_
                rotate_left 1
                · intro W' hW'
                  go_simp
                  try with_reducible rfl
                try simp only [Act.put, List.setIfInBounds_toArray, List.set_cons_zero, List.set_cons_succ]
                refine rgn.Walk.ys (v := ?_) rfl rfl rfl ?_ ?_
                rotate_left 1
                · intro W' hW'
                  go_simp
                  try with_reducible rfl
                try simp only [Act.put, List.setIfInBounds_toArray, List.set_cons_zero, List.set_cons_succ]
                refine rgn.Walk.ys (v := ?_) rfl rfl rfl ?_ ?_
                rotate_left 1
                · intro W' hW'
                  have q0 := hW'.keep (show W2.cell? ⟨gb, k * 3 + 1, none⟩ = some (.pointer (some ⟨q, 0, none⟩)) from HC9.out)
                  go_simp
                  try with_reducible rfl
                try simp only [Act.put, List.setIfInBounds_toArray, List.set_cons_zero, List.set_cons_succ]
                refine rgn.Walk.ys (v := ?_) rfl rfl rfl ?_ ?_
                rotate_left 1
                · intro W' hW'
                  go_simp
                  try with_reducible rfl
                try simp only [Act.put, List.setIfInBounds_toArray, List.set_cons_zero, List.set_cons_succ]
                refine rgn.Walk.ys (v := ?_) rfl rfl rfl ?_ ?_
                rotate_left 1
                · intro W' hW'
                  go_simp
                  try with_reducible rfl
                try simp only [Act.put, List.setIfInBounds_toArray, List.set_cons_zero, List.set_cons_succ]
                refine rgn.Walk.ys (v := ?_) rfl rfl rfl ?_ ?_
                rotate_left 1
                · intro W' hW'
                  go_simp
                  try with_reducible rfl
                try simp only [Act.put, List.setIfInBounds_toArray, List.set_cons_zero, List.set_cons_succ]
                refine rgn.Walk.ys (v := ?_) rfl rfl rfl ?_ ?_
                rotate_left 1
                · intro W' hW'
                  go_simp
                  try with_reducible rfl
                try simp only [Act.put, List.setIfInBounds_toArray, List.set_cons_zero, List.set_cons_succ]
                refine rgn.Walk.ys (v := ?_) rfl rfl rfl ?_ ?_
                rotate_left 1
                · intro W' hW'
                  go_simp
                  try with_reducible rfl
                try simp only [Act.put, List.setIfInBounds_toArray, List.set_cons_zero, List.set_cons_succ]
                refine rgn.Walk.ys (v := ?_) rfl rfl rfl ?_ ?_
                rotate_left 1
                · intro W' hW'
                  have q0 := hW'.keep (show W2.cell? ⟨gb, k * 3 + 1, none⟩ = some (.pointer (some ⟨q, 0, none⟩)) from HC9.out)
                  go_simp
                  try with_reducible rfl
                try simp only [Act.put, List.setIfInBounds_toArray, List.set_cons_zero, List.set_cons_succ]
                refine rgn.Walk.ys (v := ?_) rfl rfl rfl ?_ ?_
                rotate_left 1
                · intro W' hW'
                  go_simp
                  try with_reducible rfl
                try simp only [Act.put, List.setIfInBounds_toArray, List.set_cons_zero, List.set_cons_succ]
                refine rgn.Walk.ys (v := ?_) rfl rfl rfl ?_ ?_
                rotate_left 1
                · intro W' hW'
                  have q0 := hW'.keep (HD9.out.cell 0)
                  go_simp
                  try with_reducible rfl
                try simp only [Act.put, List.setIfInBounds_toArray, List.set_cons_zero, List.set_cons_succ]
                refine rgn.Walk.ys (v := ?_) rfl rfl rfl ?_ ?_
                rotate_left 1
                · intro W' hW'
                  go_simp
                  try with_reducible rfl
                try simp only [Act.put, List.setIfInBounds_toArray, List.set_cons_zero, List.set_cons_succ]
                refine rgn.Walk.ys (v := ?_) rfl rfl rfl ?_ ?_
                rotate_left 1
                · intro W' hW'
                  go_simp
                  try with_reducible rfl
                try simp only [Act.put, List.setIfInBounds_toArray, List.set_cons_zero, List.set_cons_succ]
                refine rgn.Walk.ys (v := ?_) rfl rfl rfl ?_ ?_
                rotate_left 1
                · intro W' hW'
                  have q0 := hW'.keep (HB9.out.cell 0)
                  go_simp
                  try with_reducible rfl
                try simp only [Act.put, List.setIfInBounds_toArray, List.set_cons_zero, List.set_cons_succ]
                refine rgn.Walk.ys (v := ?_) rfl rfl rfl ?_ ?_
                rotate_left 1
                · intro W' hW'
                  have zz := zl
                  go_simp
                  try with_reducible rfl
                try simp only [Act.put, List.setIfInBounds_toArray, List.set_cons_zero, List.set_cons_succ]
                refine rgn.Walk.ys (v := ?_) rfl rfl rfl ?_ ?_
                rotate_left 1
                · intro W' hW'
                  go_simp
                  try with_reducible rfl
                try simp only [Act.put, List.setIfInBounds_toArray, List.set_cons_zero, List.set_cons_succ]
                refine rgn.Walk.zs (NoPanic.normal ?_)
                have HI2 : Hid (QI w W2 B (.slice (some ⟨gb, 0, none⟩) n c) M dz (qry grp mx now draw) (k + 1)) := hid (QI.skip ⟨M', dz', H1.out, H2.out, H3.out, H4.out, H5.out, H6.out⟩ Q9.out HKK.out (by
                  rw [← HA1.out]
                  unfold qry Mb.ab
                  rw [if_neg HNC.out]
                  simp only [Option.map]
                  rw [HDD.out, HX.out, if_neg hl]))
                clear hl zl
                go_wp2_with fail
                go_roundw
                case rel => exact ⟨k + 1, by omega, by first | rfl | go_num, HI2, HO9, OB9⟩
                case measure => simp [RowKit.intOf]; omega
          · have z2 : (grp != mg) = true := by simpa using hg1
            refine wp_region_noPanic ?_
            refine rgn.regionT (R := Only []) (by kernel_rfl) (Only.refl []) (fun _ _ _ => Only.trans) (fun _ _ _ _ _ h => h) (.y 0 (.y 1 (.y 2 (.y 3 (.y 4 (.y 5 (.y 6 (.y 7 (.y 8 (.y 9 (.y 10 (.y 11 .z)))))))))))) (by kernel_rfl) (fun W hWd => ?_)
            have HWd := hid hWd; clear hWd
            have q8 : Only [] wr W := Only.eq_drew (Only.refl [] _) HWd.out
            have OBW := hid (OB.out.only q8 (by simp)); have Q8 := hid q8
            clear q8 HWd
            refine rgn.Walk.ys (v := ?_) rfl rfl rfl ?_ ?_
            rotate_left 1
            · intro W' hW'
              go_simp
              try with_reducible rfl
            try simp only [Act.put, List.setIfInBounds_toArray, List.set_cons_zero, List.set_cons_succ]
            refine rgn.Walk.ys (v := ?_) rfl rfl rfl ?_ ?_
            rotate_left 1
            · intro W' hW'
              have q0 := hW'.keep (OBW.out.cell 2)
              go_simp
              try with_reducible rfl
            try simp only [Act.put, List.setIfInBounds_toArray, List.set_cons_zero, List.set_cons_succ]
            refine rgn.Walk.ys (v := ?_) rfl rfl rfl ?_ ?_
            rotate_left 1
            · intro W' hW'
              go_simp
              try with_reducible rfl
            try simp only [Act.put, List.setIfInBounds_toArray, List.set_cons_zero, List.set_cons_succ]
            refine rgn.Walk.ys (v := ?_) rfl rfl rfl ?_ ?_
            rotate_left 1
            · intro W' hW'
              go_simp
              try with_reducible rfl
            try simp only [Act.put, List.setIfInBounds_toArray, List.set_cons_zero, List.set_cons_succ]
            refine rgn.Walk.ys (v := ?_) rfl rfl rfl ?_ ?_
            rotate_left 1
            · intro W' hW'
              go_simp
              try with_reducible rfl
            try simp only [Act.put, List.setIfInBounds_toArray, List.set_cons_zero, List.set_cons_succ]
            refine rgn.Walk.ys (v := ?_) rfl rfl rfl ?_ ?_
            rotate_left 1
            · intro W' hW'
              have q0 := hW'.keep (OBW.out.cell 2)
              go_simp
              try with_reducible rfl
            try simp only [Act.put, List.setIfInBounds_toArray, List.set_cons_zero, List.set_cons_succ]
            refine rgn.Walk.ys (v := ?_) rfl rfl rfl ?_ ?_
            rotate_left 1
            · intro W' hW'
              go_simp
              try with_reducible rfl
            try simp only [Act.put, List.setIfInBounds_toArray, List.set_cons_zero, List.set_cons_succ]
            refine rgn.Walk.ys (v := ?_) rfl rfl rfl ?_ ?_
            rotate_left 1
            · intro W' hW'
              go_simp
              try with_reducible rfl
            try simp only [Act.put, List.setIfInBounds_toArray, List.set_cons_zero, List.set_cons_succ]
            refine rgn.Walk.ys (v := ?_) rfl rfl rfl ?_ ?_
            rotate_left 1
            · intro W' hW'
              go_simp
              try with_reducible rfl
            try simp only [Act.put, List.setIfInBounds_toArray, List.set_cons_zero, List.set_cons_succ]
            refine rgn.Walk.ys (v := ?_) rfl rfl rfl ?_ ?_
            rotate_left 1
            · intro W' hW'
              have q0 := (Q8.out.trans hW').keep HC0.out
              go_simp
              try with_reducible rfl
            try simp only [Act.put, List.setIfInBounds_toArray, List.set_cons_zero, List.set_cons_succ]
            refine rgn.Walk.ys (v := ?_) rfl rfl rfl ?_ ?_
            rotate_left 1
            · intro W' hW'
              go_simp
              try with_reducible rfl
            try simp only [Act.put, List.setIfInBounds_toArray, List.set_cons_zero, List.set_cons_succ]
            refine rgn.Walk.ys (v := ?_) rfl rfl rfl ?_ ?_
            rotate_left 1
            · intro W' hW'
              go_simp
              try with_reducible rfl
            try simp only [Act.put, List.setIfInBounds_toArray, List.set_cons_zero, List.set_cons_succ]
            refine rgn.Walk.zs (NoPanic.normal ?_)
            have HI2 : Hid (QI w W B (.slice (some ⟨gb, 0, none⟩) n c) M dz (qry grp mx now draw) (k + 1)) := hid (QI.skip ⟨M', dz', H1.out, H2.out, H3.out, H4.out, H5.out, H6.out⟩ Q8.out HKK.out (by rw [← HA1.out]; unfold qry; rw [if_pos ⟨hg0, hg1⟩]))
            have HO2 := hid (HO.out.only Q8.out (by simp))
            clear hg0 hg1 z1 z2
            go_wp2_with fail
            go_roundw
            case rel => exact ⟨k + 1, by omega, by first | rfl | go_num, HI2, HO2, OBW⟩
            case measure => simp [RowKit.intOf]; omega
      · obtain rfl : k = n := by omega
        go_wp2_with fail
        refine bodyPost_end (results_none rfl _ _ _) rfl ?_
        exact ⟨rfl, HO.out, HQ.out⟩
end Go.Proofs.Ytodcjokafjdhdaa.igm
