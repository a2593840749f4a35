/-
  Slices of integers in walks: 'Rd': a slice value reads as a list of integers; 'Own': it is a row of the call's own; what append, a cut and a copy do with them. Conditions: none but those typed.
-/
import Derived.Test.YtdpmjghdmpaehaaLib
import Derived.Laws.OwnMore
import Derived.Deep.AppendLies
import Derived.Maps.AppendAt
import Derived.RegionTactic
import Derived.OwnWalk
namespace Go.Proofs.Ytdpmjghdmpaehaa
set_option linter.unusedVariables false
set_option linter.unusedSimpArgs false
open Go.ChangeShapes Go.WideShapes Go.ChangeAt Go.RowKit Go.IntWalk Go.Lib
theorem addr_plus (b off i : Nat) : (⟨b, off, none⟩ : Addr).add i = ⟨b, off + i, none⟩ := by
  unfold Addr.add; split
  · simp [*]
  · rfl
/-- The slice value '.slice A n c' reads as the integers l of kind k. -/
structure Rd (k : IntKind) (w : World) (A : Option Addr) (n : Nat) (l : List Int) : Prop where
  len : l.length = n
  wf : ∀ z ∈ l, (Lit.int k z).wf = true
  cells : 0 < n → ∃ b off, A = some ⟨b, off, none⟩ ∧ ∀ j, j < n → w.cell? ⟨b, off + j, none⟩ = some (.int k (l.getD j 0))
section
variable {k : IntKind} {w w' : World} {A : Option Addr} {n : Nat} {l : List Int}
theorem Rd.nil (k : IntKind) (w : World) (A : Option Addr) : Rd k w A 0 [] := ⟨rfl, by simp, fun h => absurd h (by omega)⟩
/-- Where it lies, for a walk that reads it: b is a block that is there. -/
theorem Rd.at_ (h : Rd k w A n l) (hn : 0 < n) : ∃ b off, A = some ⟨b, off, none⟩ ∧ b < w.heap.size ∧ ∀ j, j < n → w.cell? ⟨b, off + j, none⟩ = some (.int k (l.getD j 0)) := by
  obtain ⟨b, off, e, hc⟩ := h.cells hn
  exact ⟨b, off, e, block_lt_of_cell (hc 0 hn), hc⟩
theorem Rd.getD_wf (h : Rd k w A n l) (j : Nat) (hj : j < n) : (Lit.int k (l.getD j 0)).wf = true := by
  have hl : j < l.length := by rw [h.len]; exact hj
  rw [List.getD_eq_getElem?_getD, List.getElem?_eq_getElem hl]
  exact h.wf _ (List.getElem_mem hl)
theorem Rd.of_row {len cap : Nat} {zs : List Int} (h : IsRow k w A len cap zs) : Rd k w A len (zs.take len) := by
  rcases h with ⟨rfl, rfl, rfl, rfl⟩ | ⟨x, rfl, hl, hm, hz, hc, hw⟩
  · exact ⟨rfl, by simp, fun h => absurd h (by omega)⟩
  · refine ⟨by simp; omega, fun z hz' => hw z (List.mem_of_mem_take hz'), fun hn => ?_⟩
    obtain ⟨b, off, spot⟩ := x
    have h0 := hc 0 (by omega)
    have hs : spot = none := by simpa [Addr.add] using World.cell?_spot h0
    subst hs
    refine ⟨b, off, rfl, fun j hj => ?_⟩
    have := hc j (by omega)
    rw [addr_plus] at this
    rw [this]
    simp [List.getD_eq_getElem?_getD, List.getElem?_take, hj]
theorem IsRow.len_le {len cap : Nat} {zs : List Int} (h : IsRow k w A len cap zs) : len ≤ cap ∧ cap ≤ maxLen := by
  rcases h with ⟨rfl, rfl, rfl, rfl⟩ | ⟨x, rfl, hl, hm, _⟩
  · exact ⟨by omega, by unfold maxLen; omega⟩
  · exact ⟨hl, hm⟩
theorem Rd.keep (h : Rd k w A n l) (hk : ∀ b, b < w.heap.size → (∃ off, A = some ⟨b, off, none⟩) → w'.heap[b]? = w.heap[b]?) : Rd k w' A n l :=
  ⟨h.len, h.wf, fun hn => by
    obtain ⟨b, off, e, hb, hc⟩ := h.at_ hn
    refine ⟨b, off, e, fun j hj => ?_⟩
    rw [← hc j hj]
    exact World.cell?_of_block (w := w) (hk b hb ⟨off, e⟩)⟩
theorem Rd.only {S : List Nat} (h : Rd k w A n l) (ho : Only S w w') (hs : ∀ b off, A = some ⟨b, off, none⟩ → b < w.heap.size → b ∉ S) : Rd k w' A n l :=
  h.keep fun b hb ⟨off, e⟩ => ho.block b hb (hs b off e hb)
theorem Rd.only_nil (h : Rd k w A n l) (ho : Only [] w w') : Rd k w' A n l := h.only ho (by simp)
theorem Rd.below {B : Nat} (h : Rd k w A n l) (hb : Below B w w') (hB : w.heap.size ≤ B) : Rd k w' A n l := h.keep fun b hlt _ => hb.block b (by omega)
theorem Rd.alloc (h : Rd k w A n l) (o : Obj) : Rd k (w.alloc o) A n l := h.only_nil ((Only.refl [] w).alloc o)
theorem Rd.drew (h : Rd k w A n l) : Rd k w.drew A n l := h.keep fun _ _ _ => rfl
theorem Rd.drewN (h : Rd k w A n l) (m : Nat) : Rd k (w.drewN m) A n l := h.keep fun _ _ _ => rfl
theorem Rd.grown {row : Option Nat} (h : Rd k w A n l) (hg : w.grownBy w' row) (hr : ∀ b off, A = some ⟨b, off, none⟩ → b < w.heap.size → row ≠ some b) : Rd k w' A n l :=
  h.keep fun b hb ⟨off, e⟩ => hg.block b hb (fun e' => hr b off e hb e'.symm)
theorem Rd.setFar (h : Rd k w A n l) {p : Addr} (v : Value) (hp : ∀ b off, A = some ⟨b, off, none⟩ → b ≠ p.block) : Rd k (w.setCell p v) A n l :=
  h.keep fun b hb ⟨off, e⟩ => Below.heap_setCell _ _ _ _ (hp b off e)
/-- A first part; a rest. -/
theorem Rd.take (h : Rd k w A n l) (m : Nat) (hm : m ≤ n) : Rd k w A m (l.take m) :=
  ⟨by simp [h.len]; omega, fun z hz => h.wf z (List.mem_of_mem_take hz), fun hn => by
    obtain ⟨b, off, e, hc⟩ := h.cells (by omega)
    refine ⟨b, off, e, fun j hj => ?_⟩
    rw [hc j (by omega)]
    simp [List.getD_eq_getElem?_getD, List.getElem?_take, hj]⟩
theorem Rd.drop {b off : Nat} (h : Rd k w (some ⟨b, off, none⟩) n l) (m : Nat) (hm : m ≤ n) : Rd k w (some ⟨b, off + m, none⟩) (n - m) (l.drop m) :=
  ⟨by simp [h.len], fun z hz => h.wf z (List.mem_of_mem_drop hz), fun hn => by
    obtain ⟨b', off', e, hc⟩ := h.cells (by omega)
    obtain ⟨rfl, rfl⟩ : b = b' ∧ off = off' := by simpa using e
    refine ⟨b, off + m, rfl, fun j hj => ?_⟩
    rw [Nat.add_assoc, hc (m + j) (by omega)]
    simp [List.getD_eq_getElem?_getD, List.getElem?_drop]⟩
end
/-- A row of the call's own, which holds the integers l of kind k. -/
def Own (k : IntKind) (e : TypeId) (w : World) (base : Nat) (v : Value) (l : List Int) : Prop := w.ownsRow base e 1 v l.length (l.map (Value.int k)) ∧ ∀ z ∈ l, (Lit.int k z).wf = true
section
variable {k : IntKind} {e : TypeId} {w w' : World} {base : Nat} {v : Value} {l : List Int}
theorem Own.lt (h : Own k e w base v l) : ∀ g, v.ownBlock = some g → base ≤ g ∧ g < w.heap.size := h.1.lt
theorem Own.form (h : Own k e w base v l) (hn : 0 < l.length) : ∃ g cap, v = .slice (some ⟨g, 0, none⟩) l.length cap ∧ l.length ≤ cap ∧ base ≤ g ∧ g < w.heap.size ∧ ∀ j, j < l.length → w.cell? ⟨g, j, none⟩ = some (.int k (l.getD j 0)) := by
  obtain ⟨g, cap, hv, hg, hlt⟩ := h.1.form hn
  rcases h.1.2 with ⟨hn', _⟩ | ⟨g', cap', cur, hv', _, _, hle, _⟩
  · rw [hv] at hn'; cases hn'
  · have hcc : cap = cap' := by rw [hv] at hv'; injection hv'
    refine ⟨g, cap, hv, by omega, hg, hlt, fun j hj => ?_⟩
    have hc := h.1.cells (g := g) (by rw [hv]; rfl) j (.int k (l.getD j 0)) (by
      rw [List.getElem?_map, List.getElem?_eq_getElem hj, List.getD_eq_getElem?_getD, List.getElem?_eq_getElem hj]; rfl)
    rw [addr_plus] at hc
    simpa using hc
/-- As a slice value, whatever its form. -/
theorem Own.slice (h : Own k e w base v l) : ∃ A cap, v = .slice A l.length cap ∧ l.length ≤ cap ∧ cap ≤ maxLen ∧ Rd k w A l.length l ∧ (∀ b off, A = some ⟨b, off, none⟩ → v.ownBlock = some b) := by
  rcases h.1.2 with ⟨hv, hn⟩ | ⟨g, cap, cur, hv, hg, hh, hle, hm, hs, ht⟩
  · refine ⟨none, 0, by rw [hv, hn], by omega, by unfold maxLen; omega, ⟨rfl, h.2, fun h0 => absurd h0 (by omega)⟩, by simp⟩
  · refine ⟨some ⟨g, 0, none⟩, cap, hv, hle, hm, ⟨rfl, h.2, fun h0 => ?_⟩, ?_⟩
    · obtain ⟨g', cap', hv', _, _, _, hc⟩ := h.form h0
      have : g = g' := by rw [hv] at hv'; injection hv' with h1; injection h1 with h1; injection h1
      subst this
      exact ⟨g, 0, rfl, fun j hj => by simpa using hc j hj⟩
    · intro b off e'
      injection e' with e'; injection e' with e'
      subst e'
      rw [hv]; rfl
theorem Own.frozen {g off n cap : Nat} (h : Own k e w base (.slice (some ⟨g, off, none⟩) n cap) l) (j : Nat) : w.frozen? ⟨g, j, none⟩ = false := by
  rcases h.1.2 with ⟨hv, _⟩ | ⟨g', cap', cur, hv, _, hh, _⟩
  · cases hv
  · injection hv with h1; injection h1 with h1; injection h1 with h1 h2
    subst h1
    exact frozen_of_row w g j cur e hh
theorem Own.only {S : List Nat} (h : Own k e w base v l) (ho : Only S w w') (hn : ∀ g, v.ownBlock = some g → g ∉ S) : Own k e w' base v l := by
  refine ⟨⟨h.1.1, ?_⟩, h.2⟩
  rcases h.1.2 with h2 | ⟨g, cap, cur, hv, hg, hh, r⟩
  · exact .inl h2
  · have hlt : g < w.heap.size := (h.1.lt g (by rw [hv]; rfl)).2
    exact .inr ⟨g, cap, cur, hv, hg, (ho.block g hlt (hn g (by rw [hv]; rfl))).trans hh, r⟩
theorem Own.only_nil (h : Own k e w base v l) (ho : Only [] w w') : Own k e w' base v l := h.only ho (by simp)
theorem Own.alloc (h : Own k e w base v l) (o : Obj) : Own k e (w.alloc o) base v l := h.only_nil ((Only.refl [] w).alloc o)
theorem Own.drew (h : Own k e w base v l) : Own k e w.drew base v l := h
theorem Own.drewN (h : Own k e w base v l) (n : Nat) : Own k e (w.drewN n) base v l := h
theorem Own.mono_base {base' : Nat} (h : Own k e w base v l) (hb : base' ≤ base) : Own k e w base' v l := by
  refine ⟨⟨h.1.1, ?_⟩, h.2⟩
  rcases h.1.2 with h2 | ⟨g, cap, cur, hv, hg, r⟩
  · exact .inl h2
  · exact .inr ⟨g, cap, cur, hv, by omega, r⟩
theorem Own.nil (k : IntKind) (e : TypeId) (w : World) (base : Nat) : Own k e w base (.slice none 0 0) [] := ⟨World.ownsRow_nil w base e 1, by simp⟩
/-- A literal slice in a new block. -/
theorem Own.lit (k : IntKind) (e : TypeId) (w : World) (base : Nat) (l : List Int) (cs : Array Value) (n : Nat) (hcs : cs.toList = l.map (Value.int k)) (hn : n = l.length) (hb : base ≤ w.heap.size) (hm : l.length ≤ maxLen) (hw : ∀ z ∈ l, (Lit.int k z).wf = true) :
    Own k e (w.alloc (.cells cs e)) base (.slice (some ⟨w.heap.size, 0, none⟩) n n) l := by
  subst hn
  refine ⟨?_, hw⟩
  have hs : cs.size = l.length * 1 := by rw [← Array.length_toList, hcs]; simp
  have := World.ownsRow_lit (base := base) (e := e) (size := 1) w cs l.length hb hm hs
  rw [hcs] at this
  exact this
end
theorem Own.rd {k : IntKind} {e : TypeId} {w : World} {base : Nat} {l : List Int} {A : Option Addr} {n cap : Nat} (h : Own k e w base (.slice A n cap) l) : Rd k w A n l := by
  obtain ⟨A', cap', hv, _, _, hr, _⟩ := h.slice
  injection hv with h1 h2 h3
  subst h1 h2
  exact hr
/-- What the walk must know of an element type: its zero, one cell, its bytes. -/
structure Elem (P : Program) (t e : TypeId) (k : IntKind) (bytes : Nat) : Prop where
  ht : P.underlying t = some (.slice e)
  info : (P.info? e).map (fun i => (i.zero, i.size, i.bytes)) = some (some (.int k 0), 1, bytes)
section
variable {P : Program} (w : World) {k : IntKind} {e : TypeId}
theorem run_app {t : TypeId} {bytes : Nat} (E : Elem P t e k bytes) (ty : TypeId) (base : Nat) (v : Value) (xs : List Int) (hown : Own k e w base v xs) (A : Option Addr) (m c : Nat) (l : List Int) (hr : Rd k w A m l) (hc0 : A = none → c = 0)
    (hb : (xs.length + m) * bytes ≤ 140737488355328) (h63 : xs.length + m ≤ maxLen) (hbase : base ≤ w.heap.size) :
    ∃ v' w', (Builtin.append_ #[t, t] ty #[v, .slice A m c]).run P w = .ok v' w' ∧ Own k e w' base v' (xs ++ l) ∧ w.grownBy w' v.ownBlock ∧ (v'.ownBlock = v.ownBlock ∨ v'.ownBlock = some w.heap.size) := by
  obtain ⟨i, hi, hz, hs, hby⟩ := info_parts E.info
  have hwf : ∀ z ∈ xs ++ l, (Lit.int k z).wf = true := by
    intro z hz
    rcases List.mem_append.1 hz with h | h
    · exact hown.2 z h
    · exact hr.wf z h
  rcases A with _ | ad
  · have hm : m = 0 := by
      rcases Nat.eq_zero_or_pos m with h0 | h0
      · exact h0
      · obtain ⟨b, off, h, _⟩ := hr.cells h0; cases h
    subst hm
    have hl : l = [] := List.eq_nil_of_length_eq_zero hr.len
    subst hl
    rw [hc0 rfl]
    exact ⟨v, w, run_append_owned_none w base t ty e i 1 E.ht hi v _ _ hown.1, by simpa using hown, World.grownBy.refl w _, .inl rfl⟩
  · have hnews : ∀ j u, (l.map (Value.int k))[j]? = some u → w.cell? (ad.add j) = some u := by
      intro j u hu
      have hj : j < l.length := by
        rcases Nat.lt_or_ge j l.length with h | h
        · exact h
        · rw [List.getElem?_eq_none (by simpa using h)] at hu; cases hu
      obtain ⟨b, off, h, hc⟩ := hr.cells (by rw [← hr.len]; omega)
      injection h with h
      subst h
      rw [addr_plus, hc j (by rw [← hr.len]; exact hj)]
      rw [List.getElem?_map, List.getElem?_eq_getElem hj] at hu
      rw [← hu, List.getD_eq_getElem?_getD, List.getElem?_eq_getElem hj]
      rfl
    obtain ⟨v', w', h1, h2, h3, _, h5⟩ := run_append_own_at (P := P) w base t ty e i (.int k 0) 1 bytes E.ht hi hz hs hby rfl (by omega) v xs.length (xs.map (Value.int k)) hown.1 ad m c (l.map (Value.int k)) (by simp [hr.len]) hnews (ints_oneCell k l) h63 hb hbase
    refine ⟨v', w', h1, ⟨?_, hwf⟩, h3, h5⟩
    rw [List.length_append, hr.len, List.map_append]
    exact h2
theorem wpList_app {ops : Array Oper} {rest : List Oper} {o : Oper} {a : Act} {Q : Exit → Act → World → Prop} (hgd : o.guard = none) (s x : Operand) (t : TypeId)
    (ho : o.op = .call { callee := .builtin .append, args := #[s, x], argTypes := #[t, t] }) {bytes : Nat} (E : Elem P t e k bytes) (base : Nat) (v : Value) (xs : List Int) (hs : a.eval s = v) (hown : Own k e w base v xs)
    (A : Option Addr) (m c : Nat) (l : List Int) (hx : a.eval x = .slice A m c) (hr : Rd k w A m l) (hc0 : A = none → c = 0) (hb : (xs.length + m) * bytes ≤ 140737488355328) (h63 : xs.length + m ≤ maxLen) (hbase : base ≤ w.heap.size)
    (h : ∀ v' w', Own k e w' base v' (xs ++ l) → w.grownBy w' v.ownBlock → (v'.ownBlock = v.ownBlock ∨ v'.ownBlock = some w.heap.size) → wpList P ops Q rest (a.put o.dst v') w') : wpList P ops Q (o :: rest) a w := by
  refine wpList_plain hgd fun K hK => ?_
  obtain ⟨v', w', hr, h2, h3, h5⟩ := run_app (P := P) w E o.type base v xs hown A m c l hr hc0 hb h63 hbase
  unfold Oper.wp execOp
  simp only [ho, resolve, invoke, builtin, Sem.run_bind, Sem.run_pure, Result.andThen_ok, List.map_toArray, List.map_cons, List.map_nil, hs, hx, hr]
  exact hK _ _ (h v' w' h2 h3 h5)
theorem step_app {ops : Array Oper} {o : Oper} {a : Act} {K : Act → World → Prop} {Q : Exit → Act → World → Prop} {X : Prop} (hgd : o.guard = none) (s x : Operand) (t : TypeId)
    (ho : o.op = .call { callee := .builtin .append, args := #[s, x], argTypes := #[t, t] }) {bytes : Nat} (E : Elem P t e k bytes) (base : Nat) (v : Value) (xs : List Int) (hs : a.eval s = v) (hown : Own k e w base v xs)
    (A : Option Addr) (m c : Nat) (l : List Int) (hx : a.eval x = .slice A m c) (hr : Rd k w A m l) (hc0 : A = none → c = 0) (hb : (xs.length + m) * bytes ≤ 140737488355328) (h63 : xs.length + m ≤ maxLen) (hbase : base ≤ w.heap.size)
    (h : ∀ v' w', Own k e w' base v' (xs ++ l) → w.grownBy w' v.ownBlock → (v'.ownBlock = v.ownBlock ∨ v'.ownBlock = some w.heap.size) → K (a.put o.dst v') w') : if Region.wanted o (yielded ops a.tmps) = true then Oper.wp P o a w K Q else X := by
  have hw : Region.wanted o (yielded ops a.tmps) = true := by simp [Region.wanted, hgd]
  rw [if_pos hw]
  obtain ⟨v', w', hr, h2, h3, h5⟩ := run_app (P := P) w E o.type base v xs hown A m c l hr hc0 hb h63 hbase
  unfold Oper.wp execOp
  simp only [ho, resolve, invoke, builtin, Sem.run_bind, Sem.run_pure, Result.andThen_ok, List.map_toArray, List.map_cons, List.map_nil, hs, hx, hr]
  exact h v' w' h2 h3 h5
end
end Go.Proofs.Ytdpmjghdmpaehaa
