/-
  Rows of structs of the call's own: a store of cells into a part of a row, and the built-in clear over elements of any size. Conditions: none but those typed.
-/
import Derived.Test.YtdpmjghdmpaehaaLib
import Derived.Test.YtdpmjghdmpaehaaStc
import Derived.Lib.SliceRun
import Derived.Deep.RegionLaw
namespace Go.Proofs.Ytdpmjghdmpaehaa
set_option linter.unusedVariables false
set_option linter.unusedSimpArgs false
open Go.ChangeShapes Go.WideShapes Go.ChangeAt Go.RowKit Go.IntWalk Go.Lib
theorem set_take_drop (v : Value) : ∀ (l : List Value) (o k : Nat), o < l.length → (l.set o v).take (o + 1) = l.take o ++ [v] ∧ (l.set o v).drop (o + 1 + k) = l.drop (o + (k + 1))
  | [], o, k, h => by simp at h
  | x :: l, 0, k, h => by
    refine ⟨by simp, ?_⟩
    rw [show 0 + 1 + k = k + 1 from by omega, show 0 + (k + 1) = k + 1 from by omega]
    simp
  | x :: l, o + 1, k, h => by
    obtain ⟨a, b⟩ := set_take_drop v l o k (by simpa using h)
    refine ⟨by simp [a], ?_⟩
    have e1 : o + 1 + 1 + k = (o + 1 + k) + 1 := by omega
    have e2 : o + 1 + (k + 1) = (o + (k + 1)) + 1 := by omega
    rw [e1, e2, List.set_cons_succ, List.drop_succ_cons, List.drop_succ_cons, b]
/-- What a row holds behind a store of the cells vs from place o on. -/
theorem Ob.spl {g : Nat} {t : TypeId} : ∀ (vs : List Value) (o : Nat) {w : World} {cs : Array Value}, Ob w g t cs → o + vs.length ≤ cs.size → Ob (w.setCells g o vs) g t (cs.toList.take o ++ vs ++ cs.toList.drop (o + vs.length)).toArray
  | [], o, w, cs, h, _ => by
    have e : (cs.toList.take o ++ [] ++ cs.toList.drop (o + ([] : List Value).length)).toArray = cs := by simp
    rw [e]; exact h
  | v :: r, o, w, cs, h, hl => by
    have hl2 : o + (r.length + 1) ≤ cs.size := by simpa using hl
    have h2 := Ob.spl r (o + 1) (h.set o v) (by simp; omega)
    have ho : o < cs.toList.length := by simp; omega
    obtain ⟨a, b⟩ := set_take_drop v cs.toList o r.length ho
    have e : (cs.setIfInBounds o v).toList = cs.toList.set o v := by simp
    rw [e, a, b] at h2
    have e2 : (cs.toList.take o ++ v :: r ++ cs.toList.drop (o + (v :: r).length)).toArray = (cs.toList.take o ++ [v] ++ r ++ cs.toList.drop (o + (r.length + 1))).toArray := by simp
    rw [e2]
    exact h2
theorem mod_lt_mul (n s i : Nat) (h : i < n * s) : i % s < s := Nat.mod_lt _ (by
  rcases Nat.eq_zero_or_pos s with h0 | h0
  · subst h0; simp at h
  · exact h0)
/-- 'clear(s)', s a slice of n > 0 elements of any size: other cells than the row's stay. -/
theorem run_clear_wide {P : Program} (w : World) (t e ty : TypeId) (z : Value) (ht : P.underlying t = some (.slice e)) (hv : (zeroValue e).run P w = .ok z w) (h1 : ∀ u ∈ z.cells, u.oneCell' = true) (b o n c : Nat) (hn : 0 < n)
    (hc : ∀ j, j < n * z.cells.size → (w.cell? ⟨b, o + j, none⟩).isSome = true) (hf : ∀ j, j < n * z.cells.size → w.frozen? ⟨b, o + j, none⟩ = false) :
    ∃ news : List Value, news.length = n * z.cells.size ∧ (Builtin.clear_ #[t] ty #[.slice (some ⟨b, o, none⟩) n c]).run P w = .ok (.tuple #[]) (w.setCells b o news) := by
  have hlen : (Builtin.zeroCells z.cells n).toList.length = n * z.cells.size := by simp [Builtin.zeroCells]
  have hst := run_storeCells_cells (P := P) b o (Builtin.zeroCells z.cells n).toList 0 w (by rw [hlen]; simpa using hc) (by rw [hlen]; simpa using hf) (by
    intro v hv'
    simp only [Builtin.zeroCells, Array.toList_map, List.mem_map] at hv'
    obtain ⟨i, hi, rfl⟩ := hv'
    have hi2 : i < n * z.cells.size := by simpa using hi
    have hm := mod_lt_mul _ _ _ hi2
    rw [getElem!_pos z.cells _ hm]
    exact h1 _ (Array.getElem_mem hm))
  simp only [Nat.add_zero] at hst
  refine ⟨_, hlen, ?_⟩
  obtain ⟨m, rfl⟩ : ∃ m, n = m + 1 := ⟨n - 1, by omega⟩
  simp [Builtin.clear_, run_underlying ht, hv, hst]
end Go.Proofs.Ytdpmjghdmpaehaa
