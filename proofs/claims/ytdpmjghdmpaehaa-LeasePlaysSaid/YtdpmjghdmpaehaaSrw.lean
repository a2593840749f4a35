/-
  Rows of structs: a slice of elements of any size, read cell by cell, and append onto a row of the call's own. Conditions: none but those typed.
-/
import Derived.Test.YtdpmjghdmpaehaaByt
import Derived.Test.YtdpmjghdmpaehaaRga
import Derived.Test.YtdpmjghdmpaehaaDel
import Derived.Maps.AppendAt
namespace Go.Proofs.Ytdpmjghdmpaehaa
set_option linter.unusedVariables false
set_option linter.unusedSimpArgs false
open Go.ChangeShapes Go.WideShapes Go.ChangeAt Go.RowKit Go.IntWalk Go.Lib
/-- n elements of sz cells each, whose cells are cs. -/
structure RdS (w : World) (A : Option Addr) (n sz : Nat) (cs : List Value) : Prop where
  len : cs.length = n * sz
  one : ∀ u ∈ cs, u.oneCell' = true
  cells : 0 < n → ∃ b off, A = some ⟨b, off, none⟩ ∧ b < w.heap.size ∧ ∀ j u, cs[j]? = some u → w.cell? ⟨b, off + j, none⟩ = some u
section
variable {w w' : World} {A : Option Addr} {n sz : Nat} {cs : List Value}
theorem RdS.zero (w : World) (A : Option Addr) (sz : Nat) : RdS w A 0 sz [] := ⟨by simp, by simp, fun h => absurd h (by omega)⟩
theorem RdS.keep (h : RdS w A n sz cs) (hk : ∀ b, b < w.heap.size → (∃ off, A = some ⟨b, off, none⟩) → w'.heap[b]? = w.heap[b]?) : RdS w' A n sz cs :=
  ⟨h.len, h.one, fun hn => by
    obtain ⟨b, off, e, hb, hc⟩ := h.cells hn
    have e2 := hk b hb ⟨off, e⟩
    refine ⟨b, off, e, ?_, fun j u hj => (World.cell?_of_block (w := w) e2).trans (hc j u hj)⟩
    rcases Nat.lt_or_ge b w'.heap.size with h1 | h1
    · exact h1
    · rw [Array.getElem?_eq_none h1, Array.getElem?_eq_getElem hb] at e2
      cases e2⟩
theorem RdS.only {S : List Nat} (h : RdS w A n sz cs) (ho : Only S w w') (hs : ∀ b off, A = some ⟨b, off, none⟩ → b < w.heap.size → b ∉ S) : RdS w' A n sz cs :=
  h.keep fun b hb ⟨off, e⟩ => ho.block b hb (hs b off e hb)
theorem RdS.only_nil (h : RdS w A n sz cs) (ho : Only [] w w') : RdS w' A n sz cs := h.only ho (by simp)
theorem RdS.grown {row : Option Nat} (h : RdS w A n sz cs) (hg : w.grownBy w' row) (hr : ∀ b off, A = some ⟨b, off, none⟩ → b < w.heap.size → row ≠ some b) : RdS w' A n sz cs :=
  h.keep fun b hb ⟨off, e⟩ => hg.block b hb (fun x => hr b off e hb x.symm)
theorem RdS.take (h : RdS w A n sz cs) (m : Nat) (hm : m ≤ n) : RdS w A m sz (cs.take (m * sz)) := by
  have hle : m * sz ≤ n * sz := Nat.mul_le_mul_right _ hm
  refine ⟨by rw [List.length_take, h.len]; omega, fun u hu => h.one u (List.mem_of_mem_take hu), fun h0 => ?_⟩
  obtain ⟨b, off, e, hb, hc⟩ := h.cells (by omega)
  refine ⟨b, off, e, hb, fun j u hj => hc j u ?_⟩
  rw [List.getElem?_take] at hj
  split at hj
  · exact hj
  · cases hj
theorem RdS.drop {b off : Nat} (h : RdS w (some ⟨b, off, none⟩) n sz cs) (m : Nat) (hm : m ≤ n) : RdS w (some ⟨b, off + m * sz, none⟩) (n - m) sz (cs.drop (m * sz)) := by
  refine ⟨by rw [List.length_drop, h.len, Nat.sub_mul], fun u hu => h.one u (List.mem_of_mem_drop hu), fun h0 => ?_⟩
  obtain ⟨b', off', e, hb, hc⟩ := h.cells (by omega)
  injection e with e; injection e with e1 e2
  subst e1 e2
  refine ⟨b, off + m * sz, rfl, hb, fun j u hj => ?_⟩
  rw [List.getElem?_drop] at hj
  rw [Nat.add_assoc]
  exact hc _ u hj
/-- The rest of a row behind its first m elements, as the slice operation gives it. -/
theorem RdS.dropIf {b off c : Nat} (h : RdS w (some ⟨b, off, none⟩) n sz cs) (m : Nat) (hm : m ≤ n) (hc : n ≤ c) {A2 : Option Addr} (hA : A2 = some ⟨b, off, none⟩ ∧ c = m ∨ A2 = some ⟨b, off + m * sz, none⟩) : RdS w A2 (n - m) sz (cs.drop (m * sz)) := by
  rcases hA with ⟨h1, h2⟩ | h1
  · obtain rfl : n = m := by omega
    have e : cs.drop (n * sz) = [] := List.drop_eq_nil_of_le (by rw [h.len]; exact Nat.le_refl _)
    rw [e, Nat.sub_self]
    exact RdS.zero _ _ _
  · rw [h1]; exact h.drop m hm
end
theorem own_mono {w : World} {base base' : Nat} {e : TypeId} {sz n : Nat} {v : Value} {xs : List Value} (h : w.ownsRow base e sz v n xs) (hb : base' ≤ base) : w.ownsRow base' e sz v n xs := by
  refine ⟨h.1, ?_⟩
  rcases h.2 with h' | ⟨g, cap, cur, h1, h2, r⟩
  · exact .inl h'
  · exact .inr ⟨g, cap, cur, h1, by omega, r⟩
theorem own_only {S : List Nat} {w w' : World} {base : Nat} {e : TypeId} {sz n : Nat} {v : Value} {xs : List Value} (h : w.ownsRow base e sz v n xs) (o : Only S w w') (hn : ∀ b, v.ownBlock = some b → b ∉ S) : w'.ownsRow base e sz v n xs := by
  refine ⟨h.1, ?_⟩
  rcases h.2 with h | ⟨b, cap, cur, hv1, hb1, hh, r⟩
  · exact .inl h
  · refine .inr ⟨b, cap, cur, hv1, hb1, ?_, r⟩
    rw [o.block b (by
      rcases Nat.lt_or_ge b w.heap.size with h | h
      · exact h
      · rw [Array.getElem?_eq_none h] at hh; cases hh) (hn b (by rw [hv1]; rfl))]
    exact hh
theorem own_only_nil {w w' : World} {base : Nat} {e : TypeId} {sz n : Nat} {v : Value} {xs : List Value} (h : w.ownsRow base e sz v n xs) (o : Only [] w w') : w'.ownsRow base e sz v n xs := own_only h o (by simp)
theorem own_lt {w : World} {base : Nat} {e : TypeId} {sz n : Nat} {v : Value} {xs : List Value} (h : w.ownsRow base e sz v n xs) : ∀ b, v.ownBlock = some b → base ≤ b ∧ b < w.heap.size := h.lt
/-- A row of the call's own as a slice to be read. -/
theorem RdS.of_own {w : World} {base : Nat} {e : TypeId} {sz n : Nat} {v : Value} {xs : List Value} (h : w.ownsRow base e sz v n xs) (h1 : ∀ u ∈ xs, u.oneCell' = true) :
    ∃ A c, v = .slice A n c ∧ n ≤ c ∧ c ≤ maxLen ∧ (A = none → c = 0) ∧ RdS w A n sz xs ∧ (∀ b off, A = some ⟨b, off, none⟩ → off = 0 ∧ v.ownBlock = some b) ∧ (A = none ∨ ∃ b, A = some ⟨b, 0, none⟩) := by
  rcases h.2 with ⟨hv, h0⟩ | ⟨b, cap, cur, hv, hb, hh, hc, hm, hs, ht⟩
  · subst h0
    have hx : xs = [] := List.eq_nil_of_length_eq_zero (by simpa using h.1)
    subst hx
    exact ⟨none, 0, hv, by omega, by unfold maxLen; omega, fun _ => rfl, RdS.zero _ _ _, (fun b off e => by cases e), .inl rfl⟩
  · refine ⟨some ⟨b, 0, none⟩, cap, hv, hc, hm, (fun e => by cases e), ⟨h.1, h1, fun _ => ⟨b, 0, rfl, (h.lt b (by rw [hv]; rfl)).2, fun j u hj => ?_⟩⟩, (fun b' off e => by injection e with e; injection e with e1 e2; subst e1 e2; exact ⟨rfl, by rw [hv]; rfl⟩), .inr ⟨b, rfl⟩⟩
    have := h.cells (g := b) (by rw [hv]; rfl) j u hj
    rwa [addr_plus] at this
/-- What the walk must know of a struct type as a slice's element. -/
structure ElemS (P : Program) (t e : TypeId) (z : Value) (sz bytes : Nat) : Prop where
  ht : P.underlying t = some (.slice e)
  info : (P.info? e).map (fun i => (i.zero, i.size, i.bytes)) = some (some z, sz, bytes)
  zsz : z.cells.size = sz
  pos : 0 < sz
section
variable {P : Program} (w : World) {e : TypeId} {z : Value} {sz bytes : Nat}
theorem run_appS {t : TypeId} (E : ElemS P t e z sz bytes) (ty : TypeId) (base : Nat) (v : Value) (n : Nat) (xs : List Value) (hown : w.ownsRow base e sz v n xs) (A : Option Addr) (m c : Nat) (l : List Value) (hr : RdS w A m sz l) (hc0 : A = none → c = 0) (hA : A = none ∨ ∃ b off, A = some ⟨b, off, none⟩)
    (hb : (n + m) * bytes ≤ 140737488355328) (h63 : n + m ≤ maxLen) (hbase : base ≤ w.heap.size) :
    ∃ v' w', (Builtin.append_ #[t, t] ty #[v, .slice A m c]).run P w = .ok v' w' ∧ w'.ownsRow base e sz v' (n + m) (xs ++ l) ∧ w.grownBy w' v.ownBlock ∧ (v'.ownBlock = v.ownBlock ∨ v'.ownBlock = some w.heap.size) := by
  obtain ⟨i, hi, hz, hs, hby⟩ := info_parts E.info
  rcases hA with rfl | ⟨b, off, rfl⟩
  · have hm : m = 0 := by
      rcases Nat.eq_zero_or_pos m with h0 | h0
      · exact h0
      · obtain ⟨b, off, h, _⟩ := hr.cells h0; cases h
    subst hm
    have hl : l = [] := List.eq_nil_of_length_eq_zero (by simpa using hr.len)
    subst hl
    rw [hc0 rfl]
    exact ⟨v, w, run_append_owned_none w base t ty e i sz E.ht hi v _ _ hown, by simpa using hown, World.grownBy.refl w _, .inl rfl⟩
  · have hnews : ∀ j u, l[j]? = some u → w.cell? ((⟨b, off, none⟩ : Addr).add j) = some u := by
      intro j u hu
      have hj : 0 < m := by
        rcases Nat.eq_zero_or_pos m with h | h
        · have := hr.len; rw [h, Nat.zero_mul] at this
          rw [List.eq_nil_of_length_eq_zero this] at hu; cases hu
        · exact h
      obtain ⟨b', off', h, _, hc⟩ := hr.cells hj
      injection h with h; injection h with h1 h2
      subst h1 h2
      rw [addr_plus]
      exact hc j u hu
    obtain ⟨v', w', h1, h2, h3, _, h5⟩ := run_append_own_at (P := P) w base t ty e i z sz bytes E.ht hi hz hs hby E.zsz E.pos v n xs hown ⟨b, off, none⟩ m c l hr.len hnews hr.one h63 hb hbase
    exact ⟨v', w', h1, h2, h3, h5⟩
theorem wpList_appS {ops : Array Oper} {rest : List Oper} {o : Oper} {a : Act} {Q : Exit → Act → World → Prop} (hgd : o.guard = none) (s x : Operand) (t : TypeId)
    (ho : o.op = .call { callee := .builtin .append, args := #[s, x], argTypes := #[t, t] }) (E : ElemS P t e z sz bytes) (base : Nat) (v : Value) (n : Nat) (xs : List Value) (hs : a.eval s = v) (hown : w.ownsRow base e sz v n xs)
    (A : Option Addr) (m c : Nat) (l : List Value) (hx : a.eval x = .slice A m c) (hr : RdS w A m sz l) (hc0 : A = none → c = 0) (hA : A = none ∨ ∃ b off, A = some ⟨b, off, none⟩) (hb : (n + m) * bytes ≤ 140737488355328) (h63 : n + m ≤ maxLen) (hbase : base ≤ w.heap.size)
    (h : ∀ v' w', w'.ownsRow base e sz v' (n + m) (xs ++ l) → w.grownBy w' v.ownBlock → (v'.ownBlock = v.ownBlock ∨ v'.ownBlock = some w.heap.size) → wpList P ops Q rest (a.put o.dst v') w') : wpList P ops Q (o :: rest) a w := by
  refine wpList_plain hgd fun K hK => ?_
  obtain ⟨v', w', hr, h2, h3, h5⟩ := run_appS (P := P) w E o.type base v n xs hown A m c l hr hc0 hA hb h63 hbase
  unfold Oper.wp execOp
  simp only [ho, resolve, invoke, builtin, Sem.run_bind, Sem.run_pure, Result.andThen_ok, List.map_toArray, List.map_cons, List.map_nil, hs, hx, hr]
  exact hK _ _ (h v' w' h2 h3 h5)
theorem opAppS {o : Oper} {a : Act} {K : Act → World → Prop} {Q : Exit → Act → World → Prop} (hgd : o.guard = none) (s x : Operand) (t : TypeId)
    (ho : o.op = .call { callee := .builtin .append, args := #[s, x], argTypes := #[t, t] }) (E : ElemS P t e z sz bytes) (base : Nat) (v : Value) (n : Nat) (xs : List Value) (hs : a.eval s = v) (hown : w.ownsRow base e sz v n xs)
    (A : Option Addr) (m c : Nat) (l : List Value) (hx : a.eval x = .slice A m c) (hr : RdS w A m sz l) (hc0 : A = none → c = 0) (hA : A = none ∨ ∃ b off, A = some ⟨b, off, none⟩) (hb : (n + m) * bytes ≤ 140737488355328) (h63 : n + m ≤ maxLen) (hbase : base ≤ w.heap.size)
    (h : ∀ v' w', w'.ownsRow base e sz v' (n + m) (xs ++ l) → w.grownBy w' v.ownBlock → (v'.ownBlock = v.ownBlock ∨ v'.ownBlock = some w.heap.size) → K (a.put o.dst v') w') : Oper.wp P o a w K Q := by
  obtain ⟨v', w', hr, h2, h3, h5⟩ := run_appS (P := P) w E o.type base v n xs hown A m c l hr hc0 hA hb h63 hbase
  unfold Oper.wp execOp
  simp only [ho, resolve, invoke, builtin, Sem.run_bind, Sem.run_pure, Result.andThen_ok, List.map_toArray, List.map_cons, List.map_nil, hs, hx, hr]
  exact h v' w' h2 h3 h5
end
/-- append where there is room, as one step of a region. -/
theorem opAppRoom {P : Program} {o : Oper} {a : Act} {w : World} {K : Act → World → Prop} {Q : Exit → Act → World → Prop}
    (hg : o.guard = none) (s x : Operand) (t : TypeId) (hop : o.op = Op.call { callee := Callee.builtin Builtin.append, args := #[s, x], argTypes := #[t, t] })
    {e : TypeId} {z : Value} {size bytes : Nat} (E : ElemS P t e z size bytes)
    (b off n cap : Nat) (hs : a.eval s = .slice (some ⟨b, off, none⟩) n cap)
    (A : Option Addr) (m c : Nat) (news : List Value) (hx : a.eval x = .slice A m c) (hA : ∃ b off, A = some ⟨b, off, none⟩) (hr : RdS w A m size news)
    (hroom : n + m ≤ cap) (hspare : ∀ j, j < m * size → (w.cell? ⟨b, off + n * size + j, none⟩).isSome = true ∧ w.frozen? ⟨b, off + n * size + j, none⟩ = false)
    (hK : K (a.put o.dst (.slice (some ⟨b, off, none⟩) (n + m) cap)) (w.setCells b (off + n * size) news)) : Oper.wp P o a w K Q := by
  obtain ⟨i, hi, hz, hsz, hby⟩ := info_parts E.info
  obtain ⟨b2, off2, rfl⟩ := hA
  have h := step_append_room (P := P) (ops := #[]) (E := True) (Q := Q) hg s x t hop e i size E.ht hi hsz b off n cap hs ⟨b2, off2, none⟩ m c news hx hr.len (fun j u hu => by
    have hj : 0 < m := by
      rcases Nat.eq_zero_or_pos m with h | h
      · have := hr.len; rw [h, Nat.zero_mul] at this
        rw [List.eq_nil_of_length_eq_zero this] at hu; cases hu
      · exact h
    obtain ⟨b', off', h, _, hc⟩ := hr.cells hj
    injection h with h; injection h with h1 h2
    subst h1 h2
    rw [addr_plus]
    exact hc j u hu) hr.one hroom (fun j hj => hspare j (by rw [hr.len] at hj; exact hj)) hK
  rwa [if_pos (by simp [Region.wanted, hg])] at h
theorem Ob.spare {w : World} {b : Nat} {t : TypeId} {cs : Array Value} (h : Ob w b t cs) (o k : Nat) (hk : o + k ≤ cs.size) : ∀ j, j < k → (w.cell? ⟨b, o + j, none⟩).isSome = true ∧ w.frozen? ⟨b, o + j, none⟩ = false := fun j hj => by
  rw [h.cell, h.frozen, Array.getElem?_eq_getElem (by omega)]
  exact ⟨rfl, rfl⟩
theorem mul_fit {a b c s : Nat} (h : a + b ≤ c) : a * s + b * s ≤ c * s := by rw [← Nat.add_mul]; exact Nat.mul_le_mul_right _ h
/-- A new row without elements. -/
theorem own_empty (w : World) (e : TypeId) (sz base : Nat) (hb : base ≤ w.heap.size) : (w.alloc (.cells #[] e)).ownsRow base e sz (.slice (some ⟨w.heap.size, 0, none⟩) 0 0) 0 [] :=
  ⟨by simp, .inr ⟨w.heap.size, 0, #[], rfl, hb, heap_alloc_new w _, by omega, by unfold maxLen; omega, by simp, by simp⟩⟩
end Go.Proofs.Ytdpmjghdmpaehaa
