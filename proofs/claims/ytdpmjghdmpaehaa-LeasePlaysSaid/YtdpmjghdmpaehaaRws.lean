/-
  Rows of elements of any type, each of so many cells: lists of elements and the cells that they lie in; copy between rows of structs; append of noughts onto a part of a row that must grow. Conditions: none but those typed.
-/
import Derived.Test.YtdpmjghdmpaehaaSrw
import Derived.Test.YtdpmjghdmpaehaaCpy
import Derived.Lib.AppendZerosOnto
namespace Go.Proofs.Ytdpmjghdmpaehaa
set_option linter.unusedVariables false
set_option linter.unusedSimpArgs false
open Go.ChangeShapes Go.WideShapes Go.ChangeAt Go.RowKit Go.IntWalk Go.Lib
/-- The cells of elements one behind the other. -/
def rws {α : Type} (enc : α → List Value) (L : List α) : List Value := L.flatMap enc
section
variable {α : Type} {enc : α → List Value} {sz : Nat}
theorem rws_app (a b : List α) : rws enc (a ++ b) = rws enc a ++ rws enc b := by simp [rws]
theorem rws_len (h : ∀ a, (enc a).length = sz) : ∀ (L : List α), (rws enc L).length = L.length * sz
  | [] => by simp [rws]
  | a :: r => by
    show (enc a ++ rws enc r).length = _
    rw [List.length_append, h, rws_len h r, List.length_cons, Nat.add_mul, Nat.one_mul, Nat.add_comm]
theorem rws_take (h : ∀ a, (enc a).length = sz) (L : List α) (k : Nat) (hk : k ≤ L.length) : (rws enc L).take (k * sz) = rws enc (L.take k) := by
  have e : rws enc L = rws enc (L.take k) ++ rws enc (L.drop k) := by rw [← rws_app, List.take_append_drop]
  have hl : (rws enc (L.take k)).length = k * sz := by rw [rws_len h, List.length_take, Nat.min_eq_left hk]
  rw [e, ← hl, List.take_left]
theorem rws_drop (h : ∀ a, (enc a).length = sz) (L : List α) (k : Nat) (hk : k ≤ L.length) : (rws enc L).drop (k * sz) = rws enc (L.drop k) := by
  have e : rws enc L = rws enc (L.take k) ++ rws enc (L.drop k) := by rw [← rws_app, List.take_append_drop]
  have hl : (rws enc (L.take k)).length = k * sz := by rw [rws_len h, List.length_take, Nat.min_eq_left hk]
  rw [e, ← hl, List.drop_left]
theorem rws_at (h : ∀ a, (enc a).length = sz) : ∀ (L : List α) (k j : Nat) (hk : k < L.length), j < sz → (rws enc L)[k * sz + j]? = (enc (L[k]'hk))[j]?
  | [], k, j, hk, _ => absurd hk (by simp)
  | a :: r, 0, j, hk, hj => by
    show (enc a ++ rws enc r)[0 * sz + j]? = (enc a)[j]?
    rw [Nat.zero_mul, Nat.zero_add]
    exact List.getElem?_append_left (by rw [h]; exact hj)
  | a :: r, k + 1, j, hk, hj => by
    show (enc a ++ rws enc r)[(k + 1) * sz + j]? = (enc (r[k]'(by simpa using hk)))[j]?
    rw [← rws_at h r k j (by simpa using hk) hj, Nat.add_mul, Nat.one_mul, List.getElem?_append_right (by rw [h]; omega)]
    congr 1
    rw [h]; omega
theorem rws_one (h1 : ∀ a, ∀ u ∈ enc a, u.oneCell' = true) (L : List α) : ∀ u ∈ rws enc L, u.oneCell' = true := fun u hu => by
  obtain ⟨a, _, ha⟩ := List.mem_flatMap.1 hu
  exact h1 a u ha
/-- A row of elements that is read: where its cells lie. -/
theorem RdS.elem {w : World} {A : Option Addr} {L : List α} {n : Nat} (h : RdS w A n sz (rws enc L)) (hn : L.length = n) (hl : ∀ a, (enc a).length = sz) (hs : 0 < sz) (k : Nat) (hk : k < L.length) :
    ∃ b off, A = some ⟨b, off, none⟩ ∧ b < w.heap.size ∧ ∀ j u, (enc (L[k]'hk))[j]? = some u → w.cell? ⟨b, off + k * sz + j, none⟩ = some u := by
  obtain ⟨b, off, e, hb, hc⟩ := h.cells (by omega)
  refine ⟨b, off, e, hb, fun j u hj => ?_⟩
  have hj2 : j < sz := by
    rcases Nat.lt_or_ge j sz with h1 | h1
    · exact h1
    · rw [List.getElem?_eq_none (by rw [hl]; exact h1)] at hj; cases hj
  have := hc (k * sz + j) u (by rw [rws_at hl L k j hk hj2]; exact hj)
  rwa [← Nat.add_assoc] at this
end
/-- copy of cells of elements of any size into a row of one block. -/
theorem run_copyS {P : Program} (w : World) {t e : TypeId} {z : Value} {sz bytes : Nat} (E : ElemS P t e z sz bytes) (sT ty : TypeId) (g off dLen dCap : Nat) (b' off' sLen sCap : Nat) (cs : Array Value) (te : TypeId) (hg : w.heap[g]? = some (.cells cs te (0, 0))) (vals : List Value)
    (hn : vals.length = min sLen dLen * sz) (hv : ∀ j u, vals[j]? = some u → w.cell? ⟨b', off' + j, none⟩ = some u) (h1 : ∀ u ∈ vals, u.oneCell' = true) (hfit : off + vals.length ≤ cs.size) :
    (Builtin.copy_ #[t, sT] ty #[.slice (some ⟨g, off, none⟩) dLen dCap, .slice (some ⟨b', off', none⟩) sLen sCap]).run P w =
      .ok (goInt ((min sLen dLen : Nat) : Int)) (w.setRow g (cs.toList.take off ++ vals ++ cs.toList.drop (off + vals.length)).toArray) := by
  obtain ⟨i, hi, hz, hs, hby⟩ := info_parts E.info
  have hf := run_firstCells_some (P := P) w i.size (min sLen dLen) ⟨b', off', none⟩ sLen sCap vals (by rw [hs]; exact hn) (fun j u hj => by rw [addr_plus]; exact hv j u hj)
  have hst := run_storeCells_at P g off te vals 0 cs w hg (by simpa using hfit) h1
  simp only [Nat.add_zero] at hst
  have hmin : Nat.min sLen dLen = min sLen dLen := rfl
  simp [Builtin.copy_, run_underlying E.ht, sizeOf, typeInfo, hi, Builtin.lenOf, hmin, hf, hst]
  first | done | rfl | (congr 1; omega)
end Go.Proofs.Ytdpmjghdmpaehaa
