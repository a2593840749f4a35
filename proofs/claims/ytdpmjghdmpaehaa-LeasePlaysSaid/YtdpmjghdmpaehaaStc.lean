/-
  Structs that lie in a block of their own: read and written whole, by the kit's laws on ranges of cells. Conditions: none.
-/
import Derived.Test.YtdpmjghdmpaehaaRgn
import Derived.Deep.MidRow
namespace Go.Proofs.Ytdpmjghdmpaehaa
set_option linter.unusedVariables false
set_option linter.unusedSimpArgs false
open Go.ChangeShapes Go.WideShapes Go.ChangeAt Go.RowKit Go.IntWalk Go.Lib
theorem Ob.range {w : World} {g : Nat} {t : TypeId} {cs : Array Value} (h : Ob w g t cs) : w.rangeAt g 0 cs.toList := fun j v hv => by
  rw [Nat.zero_add, h.cell j]; simpa using hv
theorem Ob.there {w : World} {g : Nat} {t : TypeId} {cs : Array Value} {n : Nat} (h : Ob w g t cs) (hn : n = cs.size) : w.there g 0 n := fun j hj => by
  subst hn
  rw [Nat.zero_add]
  exact ⟨by rw [h.cell j]; simp [hj], h.frozen j⟩
theorem Ob.setCells {w : World} {g : Nat} {t : TypeId} : ∀ (vs : List Value) (o : Nat) (w : World) (cs : Array Value), Ob w g t cs → Ob (w.setCells g o vs) g t (vs.zipIdx.foldl (fun c (v, i) => c.setIfInBounds (o + i) v) cs)
  | [], o, w, cs, h => h
  | v :: r, o, w, cs, h => by
    have h2 := Ob.setCells (g := g) (t := t) (w := w) r (o + 1) _ _ (h.set o v)
    simp only [World.setCells]
    have e : ∀ (l : List (Value × Nat)) (c : Array Value) , (l.map fun (p : Value × Nat) => (p.1, p.2 + 1)).foldl (fun c (p : Value × Nat) => c.setIfInBounds (o + p.2) p.1) c = l.foldl (fun c (p : Value × Nat) => c.setIfInBounds (o + 1 + p.2) p.1) c := by
      intro l
      induction l with
      | nil => intro c; rfl
      | cons a l ih => intro c; simp only [List.map_cons, List.foldl_cons]; rw [ih]; congr 1; rw [show o + (a.2 + 1) = o + 1 + a.2 from by omega]
    have e2 : (v :: r).zipIdx = (v, 0) :: (r.zipIdx.map fun (p : Value × Nat) => (p.1, p.2 + 1)) := by
      rw [List.zipIdx_cons]
      congr 1
      have e3 : r.zipIdx (0 + 1) = r.zipIdx.map (fun p : Value × Nat => (p.1, p.2 + 1)) := by
        rw [List.zipIdx_succ]
      exact e3
    rw [e2, List.foldl_cons, e]
    simpa using h2
theorem foldl_set : ∀ (vs : List Value) (pre post : List Value), vs.length = post.length → (vs.zipIdx.foldl (fun c (p : Value × Nat) => c.setIfInBounds (pre.length + p.2) p.1) (pre ++ post).toArray) = (pre ++ vs).toArray
  | [], pre, [], _ => by simp
  | [], pre, _ :: _, h => by simp at h
  | v :: r, pre, [], h => by simp at h
  | v :: r, pre, q :: post, h => by
    have ih := foldl_set r (pre ++ [v]) post (by simpa using h)
    have e : ∀ (l : List (Value × Nat)) (c : Array Value) , (l.map fun (p : Value × Nat) => (p.1, p.2 + 1)).foldl (fun c (p : Value × Nat) => c.setIfInBounds (pre.length + p.2) p.1) c = l.foldl (fun c (p : Value × Nat) => c.setIfInBounds ((pre ++ [v]).length + p.2) p.1) c := by
      intro l
      induction l with
      | nil => intro c; rfl
      | cons a l ih => intro c; simp only [List.map_cons, List.foldl_cons]; rw [ih]; congr 1; rw [show pre.length + (a.2 + 1) = (pre ++ [v]).length + a.2 from by simp; omega]
    have e2 : (v :: r).zipIdx = (v, 0) :: (r.zipIdx.map fun (p : Value × Nat) => (p.1, p.2 + 1)) := by
      rw [List.zipIdx_cons]
      congr 1
      have e3 : r.zipIdx (0 + 1) = r.zipIdx.map (fun p : Value × Nat => (p.1, p.2 + 1)) := by
        rw [List.zipIdx_succ]
      exact e3
    rw [e2, List.foldl_cons, e]
    have e4 : (pre ++ q :: post).toArray.setIfInBounds (pre.length + (v, 0).2) (v, 0).1 = (pre ++ [v] ++ post).toArray := by simp
    rw [e4, ih]
    simp
/-- A block of a struct is written whole. -/
theorem Ob.setAll {w : World} {g : Nat} {t : TypeId} {cs vs : Array Value} (h : Ob w g t cs) (hs : vs.size = cs.size) : Ob (w.setCells g 0 vs.toList) g t vs := by
  have h1 := Ob.setCells (g := g) (t := t) (w := w) vs.toList 0 w cs h
  have h2 := foldl_set vs.toList [] cs.toList (by simpa using hs)
  simp only [List.length_nil, List.nil_append, Array.toArray_toList] at h2
  rwa [h2] at h1
theorem Ob.farAll {g g' : Nat} {t : TypeId} {cs : Array Value} (hne : g ≠ g') : ∀ (vs : List Value) (o : Nat) (w : World), Ob w g t cs → Ob (w.setCells g' o vs) g t cs
  | [], _, _, h => h
  | v :: r, o, w, h => Ob.farAll hne r (o + 1) _ (h.far (p := ⟨g', o, none⟩) hne v)
theorem Only.setAll {S : List Nat} {a : World} {g : Nat} (hg : g ∈ S ∨ a.heap.size ≤ g) : ∀ (vs : List Value) (o : Nat) (w : World), Only S a w → Only S a (w.setCells g o vs)
  | [], _, _, h => h
  | v :: r, o, w, h => Only.setAll hg r (o + 1) _ (h.setCell (p := ⟨g, o, none⟩) hg v)
theorem Ob.eq_all {w W : World} {g : Nat} {t : TypeId} {cs vs : Array Value} (h : Ob w g t cs) (e : W = w.setCells g 0 vs.toList) (hs : vs.size = cs.size) : Ob W g t vs := by subst e; exact h.setAll hs
theorem Ob.eq_farAll {w W : World} {g g' o : Nat} {t : TypeId} {cs : Array Value} {vs : List Value} (h : Ob w g t cs) (e : W = w.setCells g' o vs) (hne : g ≠ g') : Ob W g t cs := by subst e; exact Ob.farAll hne _ _ _ h
theorem Only.eq_all {S : List Nat} {a w W : World} {g o : Nat} {vs : List Value} (h : Only S a w) (e : W = w.setCells g o vs) (hg : g ∈ S ∨ a.heap.size ≤ g) : Only S a W := by subst e; exact Only.setAll hg _ _ _ h
/-- A struct is read whole: what the operation yields. -/
theorem exec_load {P : Program} {op : Oper} {ρ : Operand → Value} {w : World} {d : TypeDesc} (ty : TypeId) (x : Operand) (ho : op.op = .load ty x) (g : Nat) (hx : ρ x = .pointer (some ⟨g, 0, none⟩)) (cs : Array Value) (t : TypeId) (hb : Ob w g t cs)
    (hu : P.underlying ty = some d) (hd : d.isRow = true) (hi : (P.info? ty).map (·.size) = some cs.size) : (execOp ρ op).run P w = .ok (.value (.agg cs)) w := by
  have := run_loadVar_mid (P := P) w g 0 ty cs.toList d hb.range hu hd (by simpa using hi)
  unfold execOp
  simp only [ho, hx, Instr.loadAt, Instr.sureAddr, Sem.run_bind, Sem.run_pure, Result.andThen_ok, this]
theorem wp_loadOb {P : Program} {ops : Array Oper} {rest : List Oper} {op : Oper} {a : Act} {w : World} {Q : Exit → Act → World → Prop} {d : TypeDesc} (hgd : op.guard = none) (ty : TypeId) (x : Operand) (ho : op.op = .load ty x)
    (g : Nat) (hx : a.eval x = .pointer (some ⟨g, 0, none⟩)) (cs : Array Value) (t : TypeId) (hb : Ob w g t cs)
    (hu : P.underlying ty = some d) (hd : d.isRow = true) (hi : (P.info? ty).map (·.size) = some cs.size)
    (h : wpList P ops Q rest (a.put op.dst (.agg cs)) w) : wpList P ops Q (op :: rest) a w :=
  wpList_load_mid hgd ty x ho g 0 hx cs.toList d hb.range hu hd (by simpa using hi) (by simpa using h)
theorem wp_storeOb {P : Program} {ops : Array Oper} {rest : List Oper} {op : Oper} {a : Act} {w : World} {Q : Exit → Act → World → Prop} (hgd : op.guard = none) (ty : TypeId) (x y : Operand) (ho : op.op = .store ty x y)
    (g : Nat) (vs : Array Value) (hx : a.eval x = .pointer (some ⟨g, 0, none⟩)) (hy : a.eval y = .agg vs) (cs : Array Value) (t : TypeId) (hb : Ob w g t cs)
    (hs : vs.size = cs.size) (hi : (P.info? ty).map (·.size) = some vs.size) (h1 : vs.all (·.oneCell') = true)
    (h : ∀ W, W = w.setCells g 0 vs.toList → wpList P ops Q rest (a.put op.dst undef) W) : wpList P ops Q (op :: rest) a w :=
  wpList_store_mid hgd ty x y ho g 0 vs hx hy (hb.there hs) hi h1 (h _ rfl)
end Go.Proofs.Ytdpmjghdmpaehaa
