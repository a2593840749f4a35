/-
  A slice of structs whose fields are all integers, as an argument: the cells at every index hold integers of the fields' kinds. Conditions: none but those typed.
-/
import Derived.Test.YtoogifoopafghabLib
import Derived.Deep.Slices
import Derived.ChangeSame
namespace Go.Proofs.Ytoogifoopafghab
set_option linter.unusedVariables false
set_option linter.unusedSimpArgs false
open Go.ChangeShapes Go.WideShapes Go.ChangeAt Go.RowKit Go.IntWalk Go.Lib Go.Deep
theorem addr_add (b off i : Nat) : (⟨b, off, none⟩ : Addr).add i = ⟨b, off + i, none⟩ := by
  unfold Addr.add; split
  · simp [*]
  · rfl
/-- nil, or 'len' records of n integers each, in a row. -/
def Recs (w : World) (A : Option Addr) (len n : Nat) (ks : Nat → IntKind) (V : Nat → Nat → Int) : Prop :=
  len = 0 ∨ ∃ b off, A = some ⟨b, off, none⟩ ∧ len ≤ maxLen ∧
    ∀ i, i < len → b < w.heap.size ∧ ∀ j, j < n → w.cell? ⟨b, off + (i * n + j), none⟩ = some (.int (ks j) (V i j)) ∧ (Lit.int (ks j) (V i j)).wf = true
theorem Recs.len_le {w : World} {A : Option Addr} {len n : Nat} {ks : Nat → IntKind} {V : Nat → Nat → Int} (h : Recs w A len n ks V) : len ≤ 9223372036854775807 := by
  rcases h with h | ⟨_, _, _, h, _⟩
  · omega
  · unfold maxLen at h; omega
theorem open_recs {H : Type} {enc : TypeId × Value → H} {P : Program} {w : World} {base : Nat} {spare : Nat → Bool} {held : Bool} {t e : TypeId} {fs : Array Field} {ks : Nat → IntKind} {d : DataW H} {ps : List MemPlace} {A : Option Addr} {len cap : Nat}
    (ht : P.underlying t = some (.slice e)) (he : P.underlying e = some (.struct fs)) (ce : P.cellsOf e = fs.size) (hn : 0 < fs.size)
    (hf : ∀ j fj, fs[j]? = some fj → fj.offset = j ∧ P.cellsOf fj.type = 1 ∧ P.underlying fj.type = some (.int (ks j)))
    (h : DataW.Trod enc P w base spare held t (.slice A len cap) d ps) : ∃ V : Nat → Nat → Int, Recs w A len fs.size ks V := by
  obtain ⟨fuel, h⟩ := h
  rcases open_slice ht h with ⟨h0, _⟩ | ⟨a, len', cap', m, n, D, Pl, hcs, hb, hl, hm, hmm, _, hx⟩
  · simp [Value.cells] at h0
    exact ⟨fun _ _ => 0, .inl h0.2.1⟩
  · simp [Value.cells] at hcs
    obtain ⟨rfl, rfl, rfl⟩ := hcs
    have hlm : len ≤ m := by rw [hmm]; split <;> omega
    have each : ∀ i j, ∃ v : Int, i < len → j < fs.size → w.cell? (a.add (i * fs.size + j)) = some (.int (ks j) v) ∧ (Lit.int (ks j) v).wf = true := by
      intro i j
      by_cases hi : i < len
      · by_cases hj : j < fs.size
        · obtain ⟨cs', h1, h2⟩ := hx i (by omega)
          rw [ce] at h1
          obtain ⟨_, hlen, hcell⟩ := World.cells?_some h1
          obtain ⟨xs, k, _, _, _, hxl, hg⟩ := DataW.trod_struct he h2
          obtain ⟨fj, hfj⟩ : ∃ fj, fs[j]? = some fj := ⟨fs[j], Array.getElem?_eq_getElem hj⟩
          obtain ⟨ho, hc1, hk⟩ := hf j fj hfj
          have g := hg j fj hfj
          rw [ho, hc1] at g
          have hcj := hcell j (by omega)
          rw [Deep.add_add] at hcj
          have hjl : j < cs'.length := by omega
          have hd : (cs'.drop j).take 1 = [cs'[j]] := by
            rw [List.drop_eq_getElem_cons hjl]; rfl
          rw [hd, List.getElem?_eq_getElem (by omega)] at g
          obtain ⟨v, hv, _, hw⟩ := DataW.trod_int hk g
          refine ⟨v, fun _ _ => ⟨?_, hw⟩⟩
          rw [hcj, List.getElem?_eq_getElem hjl]
          simp at hv
          rw [hv]
        · exact ⟨0, fun _ h => absurd h hj⟩
      · exact ⟨0, fun h => absurd h hi⟩
    refine ⟨fun i j => Classical.choose (each i j), ?_⟩
    have hV := fun i j => Classical.choose_spec (each i j)
    obtain ⟨b, off, spot⟩ := a
    by_cases h0 : len = 0
    · exact .inl h0
    · have hsp : spot = none := by
        have := World.cell?_spot (hV 0 0 (by omega) hn).1
        simpa [Addr.add] using this
      subst hsp
      refine .inr ⟨b, off, rfl, by omega, fun i hi => ⟨?_, fun j hj => ?_⟩⟩
      · have := block_lt_of_cell (hV i 0 hi hn).1
        rwa [addr_add] at this
      · exact ⟨by rw [← addr_add]; exact (hV i j hi hj).1, (hV i j hi hj).2⟩
end Go.Proofs.Ytoogifoopafghab
