/-
  Chapter 10 (igmp): a Host's groups as data; Join and Tick over them. Conditions: none but those typed.
-/
import Derived.Test.YtodcjokafjdhdaaIgC
namespace Go.Proofs.Ytodcjokafjdhdaa.igm
set_option linter.unusedVariables false
set_option linter.unusedSimpArgs false
open Go.ChangeShapes Go.WideShapes Go.ChangeAt Go.RowKit Go.IntWalk Go.Lib
/-- A group: when its timer is due, if it has one; and whether it is ours to leave. -/
structure Gm where
  g : Int
  d : Option Int
  o : Bool
def Mb.ab (dz : Nat → Int) (m : Mb) : Gm := ⟨m.g, m.p.map dz, m.o⟩
def spotS (S : List Gm) (t : Int) : Nat := S.countP fun a => decide (a.g < t)
def hasS (S : List Gm) (t : Int) : Bool := match S[spotS S t]? with
  | some a => decide (a.g = t)
  | none => false
theorem spot_ab (dz : Nat → Int) (M : List Mb) (t : Int) : spotS (M.map (Mb.ab dz)) t = spot M t := by
  unfold spotS spot; rw [List.countP_map]; rfl
theorem has_ab (dz : Nat → Int) (M : List Mb) (t : Int) : hasS (M.map (Mb.ab dz)) t = has M t := by
  unfold hasS has
  rw [spot_ab, List.getElem?_map]
  cases M[spot M t]? <;> rfl
def joinE (S : List Gm) (t : Int) : Int := if t ≤ 3758096385 ∨ 4026531840 ≤ t then 1 else if hasS S t = true then 8 else if 16 ≤ S.length then 6 else 0
def joinS (S : List Gm) (t now draw : Int) : List Gm := if joinE S t = 0 then insL S (spotS S t) ⟨t, some (laterZ now (dly draw.toNat (spotS S t) 10 : Nat)), true⟩ else S
def Gm.fires (now : Int) (s : Gm) : Bool := match s.d with
  | none => false
  | some x => decide (x ≤ now)
def Gm.tk (now : Int) (s : Gm) : Gm := if s.fires now then ⟨s.g, none, true⟩ else s
def tickS (now : Int) (S : List Gm) : List Gm := S.map (Gm.tk now)
def rptS (now : Int) (S : List Gm) : List Int := (S.filter (Gm.fires now)).map (·.g)
theorem fires_ab (dz : Nat → Int) (now : Int) (m : Mb) : (m.ab dz).fires now = m.fires dz now := by
  obtain ⟨g, p, o⟩ := m
  cases p <;> rfl
theorem tk_ab (dz : Nat → Int) (now : Int) (m : Mb) : (m.tk dz now).ab dz = (m.ab dz).tk now := by
  unfold Mb.tk Gm.tk
  rw [fires_ab]
  split <;> rfl
theorem tick_ab (dz : Nat → Int) (now : Int) (M : List Mb) : (M.map (Mb.tk dz now)).map (Mb.ab dz) = tickS now (M.map (Mb.ab dz)) := by
  unfold tickS
  rw [List.map_map, List.map_map]
  apply List.map_congr_left
  intro m _
  exact tk_ab dz now m
theorem rpt_ab (dz : Nat → Int) (now : Int) (M : List Mb) : rptS now (M.map (Mb.ab dz)) = rpt dz now M := by
  unfold rptS rpt
  rw [List.filter_map, List.map_map]
  congr 1
  apply List.filter_congr
  intro m _
  exact fires_ab dz now m
def RiseS (S : List Gm) : Prop := S.Pairwise fun a b => a.g < b.g
theorem rise_ab (dz : Nat → Int) (M : List Mb) : RiseS (M.map (Mb.ab dz)) ↔ Rise M := by
  unfold RiseS Rise; rw [List.pairwise_map]; rfl
theorem rise_insS {S : List Gm} (h : RiseS S) (x : Gm) (hh : hasS S x.g = false) : RiseS (insL S (spotS S x.g) x) := by
  have hlt : ∀ S : List Gm, RiseS S → (∀ y ∈ S.take (spotS S x.g), y.g < x.g) ∧ (∀ y ∈ S.drop (spotS S x.g), x.g ≤ y.g) := by
    intro S
    induction S with
    | nil => intro _; simp
    | cons a r ih =>
      intro h
      have h2 := List.pairwise_cons.1 h
      obtain ⟨i1, i2⟩ := ih h2.2
      by_cases hl : a.g < x.g
      · have e : spotS (a :: r) x.g = spotS r x.g + 1 := by unfold spotS; rw [List.countP_cons_of_pos (by simpa using hl)]
        rw [e, List.take_succ_cons, List.drop_succ_cons]
        refine ⟨fun y hy => ?_, i2⟩
        rcases List.mem_cons.1 hy with rfl | hy
        · exact hl
        · exact i1 y hy
      · have e : spotS (a :: r) x.g = 0 := by
          unfold spotS
          rw [List.countP_eq_zero]
          intro y hy
          rcases List.mem_cons.1 hy with rfl | hy
          · simpa using hl
          · have := h2.1 y hy
            simp; omega
        rw [e]
        refine ⟨by simp, fun y hy => ?_⟩
        rcases List.mem_cons.1 (by simpa using hy) with rfl | hy
        · omega
        · have := h2.1 y hy; omega
  obtain ⟨h1, h2⟩ := hlt S h
  have hS : (S.take (spotS S x.g) ++ S.drop (spotS S x.g)).Pairwise fun a b => a.g < b.g := by rw [List.take_append_drop]; exact h
  obtain ⟨p1, p2, p3⟩ := List.pairwise_append.1 hS
  unfold insL
  refine List.pairwise_append.2 ⟨p1, List.pairwise_cons.2 ⟨fun y hy => ?_, p2⟩, fun y hy z hz => ?_⟩
  · have h3 := h2 y hy
    rcases Int.lt_or_eq_of_le h3 with h4 | h4
    · exact h4
    · exfalso
      have hk : spotS S x.g < S.length := by
        rcases Nat.lt_or_ge (spotS S x.g) S.length with h9 | h9
        · exact h9
        · rw [List.drop_of_length_le h9] at hy; cases hy
      have h0 : x.g ≤ (S[spotS S x.g]).g := h2 _ (by rw [List.drop_eq_getElem_cons hk]; exact List.mem_cons_self ..)
      rw [List.drop_eq_getElem_cons hk] at hy p2
      have he : (S[spotS S x.g]).g = x.g := by
        rcases List.mem_cons.1 hy with rfl | hy
        · exact h4.symm
        · have := (List.pairwise_cons.1 p2).1 y hy; omega
      unfold hasS at hh
      rw [List.getElem?_eq_getElem hk] at hh
      simp [he] at hh
  · rcases List.mem_cons.1 hz with rfl | hz
    · exact h1 y hy
    · exact p3 y hy z hz
/-- A Host in memory that has the groups S; F: the blocks that are its own. -/
structure HI (w : World) (B g : Nat) (F : List Nat) (S : List Gm) : Prop where
  ex : ∃ v M dz, F = g :: (v.ownBlock.toList ++ M.filterMap (·.p)) ∧ Ob w g 46 #[v] ∧ w.ownsRow B 77 3 v M.length (rws Mb.enc M) ∧ Dues w dz M ∧ S = M.map (Mb.ab dz)
  rise : RiseS S
  len : S.length ≤ 16
  low : ∀ k ∈ F, B ≤ k
section
variable {w0 w w' : World} {B g : Nat} {F F' : List Nat} {S S' : List Gm}
theorem HI.lt (h : HI w B g F S) : ∀ k ∈ F, k < w.heap.size := by
  obtain ⟨v, M, dz, rfl, ho, hv, hD, _⟩ := h.ex
  intro k hk
  rcases List.mem_cons.1 hk with rfl | hk
  · exact ho.lt
  · rcases List.mem_append.1 hk with hk | hk
    · exact (own_lt hv k (by simpa using hk)).2
    · obtain ⟨m, hm, hp⟩ := List.mem_filterMap.1 hk
      exact (hD m hm k hp).lt
theorem HI.only {X : List Nat} (h : HI w B g F S) (o : Only X w w') (hd : ∀ k ∈ F, k ∉ X) : HI w' B g F S := by
  obtain ⟨v, M, dz, hF, ho, hv, hD, hS⟩ := h.ex
  refine ⟨⟨v, M, dz, hF, ho.only o (hd g (by rw [hF]; simp)), own_only hv o (fun k hk => hd k (by rw [hF]; simp [hk])), fun m hm b hb => (hD m hm b hb).only o (hd b ?_), hS⟩, h.rise, h.len, h.low⟩
  rw [hF]
  exact List.mem_cons_of_mem _ (List.mem_append_right _ (List.mem_filterMap.2 ⟨m, hm, hb⟩))
theorem HI.nil (h : HI w B g F S) (o : Only [] w w') : HI w' B g F S := h.only o (by simp)
theorem HI.new (w : World) (B : Nat) (hB : B ≤ w.heap.size) : HI (w.alloc (.cells #[.slice none 0 0] 46)) B w.heap.size [w.heap.size] [] := ⟨⟨.slice none 0 0, [], fun _ => 0, rfl, Ob.new _ _ _, World.ownsRow_nil _ _ _ _, fun m hm => (by cases hm), rfl⟩, List.Pairwise.nil, by simp, by simpa using hB⟩
/-- A Host has become another one. -/
structure HStep (w : World) (B g : Nat) (F : List Nat) (w' : World) (F' : List Nat) (S' : List Gm) : Prop where
  hi : HI w' B g F' S'
  bk : ∀ k ∈ F', k ∈ F ∨ w.heap.size ≤ k
  only : Only F w w'
theorem HI.same (h : HI w B g F S) (o : Only [] w w') : HStep w B g F w' F S := ⟨h.nil o, fun k hk => .inl hk, o.more (by simp)⟩
theorem HStep.quiet (s : HStep w B g F w' F' S') (H : HI w B g F S) (o : Only [] w0 w) (hb : w0.heap.size ≤ B) : Only [] w0 w' := o.fresh s.only (fun k hk => .inr (Nat.le_trans hb (H.low k hk)))
end
def JoinH (B g : Nat) (F : List Nat) (S : List Gm) (t now draw : Int) (w : World) (x : Ending) (w' : World) : Prop :=
  ∃ A n c cs F', x = .returned (.tuple #[.slice A n c, .int .i64 (joinE S t)]) ∧ (cs, n) = (if joinE S t = 0 then (ign t, 1) else ([], 0)) ∧ RdS w' A n 3 cs ∧ (∀ b off, A = some ⟨b, off, none⟩ → w.heap.size ≤ b) ∧ HStep w B g F w' F' (joinS S t now draw)
theorem joinH (w : World) (B g : Nat) (F : List Nat) (S : List Gm) (t now draw : Int) (h : HI w B g F S) (hB : B ≤ w.heap.size) (hnow : -9223372036854775808 ≤ now ∧ now ≤ 9223372036854775807) (hdr : draw ≤ 9223372036854775807) :
    Calls Try.prog 22 #[.pointer (some ⟨g, 0, none⟩), .int .u32 t, .int .i64 now, .int .i64 draw] w (JoinH B g F S t now draw w) := by
  have H := h
  obtain ⟨v, M, dz, hF, ho, hv, hD, rfl⟩ := h.ex
  have hlen : M.length ≤ 16 := by have := h.len; simpa using this
  have hR := (rise_ab dz M).1 h.rise
  by_cases h1 : t ≤ 3758096385 ∨ 4026531840 ≤ t
  · have e : joinE (M.map (Mb.ab dz)) t = 1 := if_pos h1
    refine (joinArg w g t now draw h1).mono ?_
    rintro x w' ⟨rfl, rfl⟩
    unfold JoinH joinS
    rw [e]
    exact ⟨none, 0, 0, [], F, rfl, rfl, RdS.zero _ _ _, by simp, H.same (Only.refl _ _)⟩
  · have h1a : ¬ t ≤ 3758096385 := fun h => h1 (.inl h)
    have h1b : ¬ 4026531840 ≤ t := fun h => h1 (.inr h)
    cases hh : has M t with
    | true =>
      have e : joinE (M.map (Mb.ab dz)) t = 8 := by unfold joinE; rw [if_neg h1, has_ab, hh]; rfl
      refine (joinHas w B g v M t now draw ho hv hR hlen h1a h1b hh).mono ?_
      rintro x w' ⟨rfl, o⟩
      unfold JoinH joinS
      rw [e]
      exact ⟨none, 0, 0, [], F, rfl, rfl, RdS.zero _ _ _, by simp, H.same o⟩
    | false =>
      by_cases hl : M.length = 16
      · have e : joinE (M.map (Mb.ab dz)) t = 6 := by unfold joinE; rw [if_neg h1, has_ab, hh, if_neg (by simp), if_pos (by simp [hl])]
        refine (joinFull w B g v M t now draw ho hv hR hl h1a h1b hh).mono ?_
        rintro x w' ⟨rfl, o⟩
        unfold JoinH joinS
        rw [e]
        exact ⟨none, 0, 0, [], F, rfl, rfl, RdS.zero _ _ _, by simp, H.same o⟩
      · have e : joinE (M.map (Mb.ab dz)) t = 0 := by unfold joinE; rw [if_neg h1, has_ab, hh, if_neg (by simp), if_neg (by simp; omega)]
        refine (joinOk w B g v M t now draw ho hv hR hB (by omega) h1a h1b hh hnow hdr).mono ?_
        rintro x w' ⟨rb, v', b, hx, hrb, hrl, ho', hv', hb', hbl, o, hbk⟩
        subst hx
        have ejs : joinS (M.map (Mb.ab dz)) t now draw = insL (M.map (Mb.ab dz)) (spotS (M.map (Mb.ab dz)) t) ⟨t, some (laterZ now (dly draw.toNat (spotS (M.map (Mb.ab dz)) t) 10 : Nat)), true⟩ := if_pos e
        unfold JoinH
        rw [ejs, e, if_pos rfl]
        have hlv : (insL M (spot M t) ⟨t, some b, true⟩).length = M.length + 1 := insL_len _ _ _
        have hmem : ∀ m ∈ insL M (spot M t) ⟨t, some b, true⟩, m = ⟨t, some b, true⟩ ∨ m ∈ M := fun m hm => by
          unfold insL at hm
          rcases List.mem_append.1 hm with hm | hm
          · exact .inr (List.mem_of_mem_take hm)
          · rcases List.mem_cons.1 hm with hm | hm
            · exact .inl hm
            · exact .inr (List.mem_of_mem_drop hm)
        have hq : ∀ m ∈ M, ∀ q, m.p = some q → q < w.heap.size ∧ q ≠ b := fun m hm q hq => by
          have := (hD m hm q hq).lt
          exact ⟨this, by omega⟩
        have hoF : Only F w w' := o.more (fun k hk => by
          rw [hF]
          rcases List.mem_cons.1 hk with rfl | hk
          · simp
          · exact List.mem_cons_of_mem _ (List.mem_append_left _ hk))
        refine ⟨some ⟨rb, 0, none⟩, 1, 1, ign t, g :: (v'.ownBlock.toList ++ (insL M (spot M t) ⟨t, some b, true⟩).filterMap (·.p)), rfl, rfl, ⟨rfl, ign_one t, fun _ => ⟨rb, 0, rfl, hrb.lt, fun j u hj => ?_⟩⟩, fun b' off e => ?_, ⟨⟨⟨v', _, fun k => if k = b then laterZ now (dly draw.toNat (spot M t) 10 : Nat) else dz k, rfl, ho', by rw [hlv]; exact hv', fun m hm q hq2 => ?_, ?_⟩, ?_, ?_, fun k hk => ?_⟩, fun k hk => ?_, hoF⟩⟩
        · rw [Nat.zero_add, hrb.cell]
          rw [← hj]; unfold ign; simp
        · injection e with e; injection e with e; omega
        · rcases hmem m hm with rfl | hm
          · injection hq2 with hq2
            subst hq2
            show Ob w' b _ #[.int .i64 (if b = b then _ else _)]
            rw [if_pos rfl]; exact hb'
          · obtain ⟨hql, hqb⟩ := hq m hm q hq2
            show Ob w' q _ #[.int .i64 (if q = b then _ else _)]
            rw [if_neg hqb]
            have hne : q ∉ g :: v.ownBlock.toList := fun hm2 => by
              rcases List.mem_cons.1 hm2 with h9 | h9
              · exact ob_ne (hD m hm q hq2) ho (by decide) h9
              · exact ob_own (hD m hm q hq2) hv (by decide) (by simpa using h9)
            exact (hD m hm q hq2).only o hne
        · unfold insL
          rw [spot_ab, List.map_append, List.map_cons]
          have hc : ∀ L : List Mb, (∀ m ∈ L, m ∈ M) → L.map (Mb.ab dz) = L.map (Mb.ab fun k => if k = b then laterZ now (dly draw.toNat (spot M t) 10 : Nat) else dz k) := fun L hL => List.map_congr_left fun m hm => by
            obtain ⟨mg, mp, mo⟩ := m
            cases mp with
            | none => rfl
            | some q =>
              have := (hq _ (hL _ hm) q rfl).2
              simp [Mb.ab, this]
          rw [← hc (M.take _) (fun m hm => List.mem_of_mem_take hm), ← hc (M.drop _) (fun m hm => List.mem_of_mem_drop hm), List.map_take, List.map_drop]
          simp [Mb.ab]
        · exact rise_insS H.rise ⟨t, some (laterZ now (dly draw.toNat (spotS (M.map (Mb.ab dz)) t) 10 : Nat)), true⟩ (by rw [has_ab]; exact hh)
        · rw [insL_len, List.length_map]; omega
        · rcases List.mem_cons.1 hk with rfl | hk
          · exact H.low _ (by rw [hF]; simp)
          · rcases List.mem_append.1 hk with hk | hk
            · exact (own_lt hv' k (by simpa using hk)).1
            · obtain ⟨m, hm, hp⟩ := List.mem_filterMap.1 hk
              rcases hmem m hm with rfl | hm
              · injection hp with hp
                omega
              · exact H.low k (by rw [hF]; exact List.mem_cons_of_mem _ (List.mem_append_right _ (List.mem_filterMap.2 ⟨m, hm, hp⟩)))
        · rcases List.mem_cons.1 hk with rfl | hk
          · exact .inl (by rw [hF]; simp)
          · rcases List.mem_append.1 hk with hk | hk
            · have hk2 : v'.ownBlock = some k := by simpa using hk
              rcases hbk with h9 | h9
              · exact .inl (by rw [hF]; rw [h9] at hk; exact List.mem_cons_of_mem _ (List.mem_append_left _ hk))
              · exact .inr (h9 k hk2)
            · obtain ⟨m, hm, hp⟩ := List.mem_filterMap.1 hk
              rcases hmem m hm with rfl | hm
              · injection hp with hp
                exact .inr (by omega)
              · exact .inl (by rw [hF]; exact List.mem_cons_of_mem _ (List.mem_append_right _ (List.mem_filterMap.2 ⟨m, hm, hp⟩)))
def TickH (B g : Nat) (F : List Nat) (S : List Gm) (now : Int) (w : World) (x : Ending) (w' : World) : Prop :=
  ∃ A c F', x = .returned (.slice A (rptS now S).length c) ∧ RdS w' A (rptS now S).length 3 (rws ign (rptS now S)) ∧ (∀ b off, A = some ⟨b, off, none⟩ → w.heap.size ≤ b) ∧ HStep w B g F w' F' (tickS now S)
theorem tickH (w : World) (B g : Nat) (F : List Nat) (S : List Gm) (now : Int) (h : HI w B g F S) : Calls Try.prog 23 #[.pointer (some ⟨g, 0, none⟩), .int .i64 now] w (TickH B g F S now w) := by
  have H := h
  obtain ⟨v, M, dz, hF, ho, hv, hD, rfl⟩ := h.ex
  have hlen : M.length ≤ 16 := by have := h.len; simpa using this
  refine (tick1 w B g v M dz now ho hv hD hlen).mono ?_
  rintro x w' ⟨v', rfl, hv', ho', hm', hD', o⟩
  obtain ⟨A, c, rfl, _, _, _, hr, hA, _⟩ := RdS.of_own hv' (rws_one ign_one _)
  unfold TickH
  rw [rpt_ab]
  have hsub : ∀ k ∈ (M.map (Mb.tk dz now)).filterMap (·.p), k ∈ M.filterMap (·.p) := fun k hk => by
    obtain ⟨m', hm, hp⟩ := List.mem_filterMap.1 hk
    obtain ⟨m, hm2, rfl⟩ := List.mem_map.1 hm
    refine List.mem_filterMap.2 ⟨m, hm2, ?_⟩
    unfold Mb.tk at hp
    split at hp
    · cases hp
    · exact hp
  refine ⟨A, c, g :: (v.ownBlock.toList ++ (M.map (Mb.tk dz now)).filterMap (·.p)), rfl, hr, fun b off e => (own_lt hv' b (hA b off e).2).1, ⟨⟨⟨v, M.map (Mb.tk dz now), dz, rfl, ho', by rw [List.length_map]; exact hm', fun m hm b hb => ?_, (tick_ab dz now M).symm⟩, ?_, ?_, fun k hk => H.low k ?_⟩, fun k hk => .inl ?_, o.more (fun k hk => by rw [hF]; exact List.mem_cons_of_mem _ (List.mem_append_left _ hk))⟩⟩
  · obtain ⟨m0, hm2, hp⟩ := List.mem_filterMap.1 (hsub b (List.mem_filterMap.2 ⟨m, hm, hb⟩))
    exact hD' m0 hm2 b hp
  · rw [← tick_ab, rise_ab]
    have := (rise_ab dz M).1 H.rise
    unfold Rise at *
    rw [List.pairwise_map]
    refine this.imp ?_
    intro a b hab
    have e : ∀ m : Mb, (m.tk dz now).g = m.g := fun m => by unfold Mb.tk; split <;> rfl
    rw [e, e]; exact hab
  · unfold tickS; rw [List.length_map]; exact H.len
  · rw [hF]
    rcases List.mem_cons.1 hk with rfl | hk
    · simp
    · rcases List.mem_append.1 hk with hk | hk
      · exact List.mem_cons_of_mem _ (List.mem_append_left _ hk)
      · exact List.mem_cons_of_mem _ (List.mem_append_right _ (hsub k hk))
  · rw [hF]
    rcases List.mem_cons.1 hk with rfl | hk
    · simp
    · rcases List.mem_append.1 hk with hk | hk
      · exact List.mem_cons_of_mem _ (List.mem_append_left _ hk)
      · exact List.mem_cons_of_mem _ (List.mem_append_right _ (hsub k hk))
end Go.Proofs.Ytodcjokafjdhdaa.igm
