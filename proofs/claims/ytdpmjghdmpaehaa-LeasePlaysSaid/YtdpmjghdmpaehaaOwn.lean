/-
  Rows of the call's own: a prefix of one, and one with a number turned into another. Conditions: none but those typed.
-/
import Derived.Test.YtdpmjghdmpaehaaByt
namespace Go.Proofs.Ytdpmjghdmpaehaa
set_option linter.unusedVariables false
set_option linter.unusedSimpArgs false
open Go.ChangeShapes Go.WideShapes Go.ChangeAt Go.RowKit Go.IntWalk Go.Lib
section
variable {k : IntKind} {e : TypeId} {w w' : World} {base : Nat} {v : Value} {l : List Int} {g n cap : Nat}
theorem Own.len (h : Own k e w base (.slice (some ⟨g, 0, none⟩) n cap) l) : l.length = n ∧ n ≤ cap ∧ cap ≤ maxLen := by
  rcases h.1.2 with ⟨hv, _⟩ | ⟨g', cap', cur, hv, hb, hh, hle, hm', hs, ht⟩
  · cases hv
  · injection hv with h1 h2 h3
    subst h3 h2
    exact ⟨rfl, hle, hm'⟩
theorem Own.pre {m : Nat} (h : Own k e w base (.slice (some ⟨g, 0, none⟩) n cap) l) (hm : m ≤ n) : Own k e w base (.slice (some ⟨g, 0, none⟩) m cap) (l.take m) := by
  have hl := h.len
  have hlm : (l.take m).length = m := by rw [List.length_take, hl.1]; omega
  rcases h.1.2 with ⟨hv, _⟩ | ⟨g', cap', cur, hv, hb, hh, hle, hm', hs, ht⟩
  · cases hv
  · injection hv with h1 h2 h3
    injection h1 with h1; injection h1 with h1
    subst h1 h3
    refine ⟨⟨by simp, .inr ⟨g, cap, cur, by rw [hlm], hb, hh, by omega, hm', hs, ?_⟩⟩, fun z hz => h.2 z (List.mem_of_mem_take hz)⟩
    rw [hlm, List.map_take, ← ht, List.take_take, Nat.mul_one, Nat.mul_one, hl.1, Nat.min_eq_left hm]
theorem Own.set (h : Own k e w base (.slice (some ⟨g, 0, none⟩) n cap) l) (j : Nat) (z : Int) (hz : (Lit.int k z).wf = true) : Own k e (w.setCell ⟨g, j, none⟩ (.int k z)) base (.slice (some ⟨g, 0, none⟩) n cap) (l.set j z) := by
  have hl := h.len
  have h1 := h.1
  rw [hl.1] at h1
  have := (World.ownsRow.stored h1 j (.int k z)).1
  refine ⟨?_, fun x hx => ?_⟩
  · rw [List.length_set, hl.1, List.map_set]
    exact this
  · rcases List.mem_or_eq_of_mem_set hx with h2 | h2
    · exact h.2 x h2
    · rw [h2]; exact hz
theorem Own.cellD (h : Own k e w base (.slice (some ⟨g, 0, none⟩) n cap) l) (j : Nat) (hj : j < n) : w.cell? ⟨g, j, none⟩ = some (.int k (l.getD j 0)) := by
  have hl := h.len
  obtain ⟨g', cap', hv, _, _, _, hc⟩ := h.form (by omega)
  injection hv with h1 h2 h3
  injection h1 with h1; injection h1 with h1
  subst h1
  exact hc j (by omega)
theorem Rd.cellD {k : IntKind} {w : World} {g off n : Nat} {l : List Int} (h : Rd k w (some ⟨g, off, none⟩) n l) (j : Nat) (hj : j < n) : w.cell? ⟨g, off + j, none⟩ = some (.int k (l.getD j 0)) := by
  obtain ⟨b1, off1, e1, hb, hc⟩ := h.at_ (by omega)
  injection e1 with e1; injection e1 with e1 e2
  subst e1 e2
  exact hc j hj
theorem Rd.cell0 {k : IntKind} {w : World} {g n : Nat} {l : List Int} (h : Rd k w (some ⟨g, 0, none⟩) n l) (j : Nat) (hj : j < n) : w.cell? ⟨g, j, none⟩ = some (.int k (l.getD j 0)) := by
  have := h.cellD j hj
  rwa [Nat.zero_add] at this
theorem Own.base_le (h : Own k e w base (.slice (some ⟨g, 0, none⟩) n cap) l) : base ≤ g ∧ g < w.heap.size := h.lt g rfl
/-- Its form, where there is an element. -/
theorem Own.some_form (h : Own k e w base v l) (hn : 0 < l.length) : ∃ g cap, v = .slice (some ⟨g, 0, none⟩) l.length cap := by
  obtain ⟨g, cap, hv, _⟩ := h.form hn
  exact ⟨g, cap, hv⟩
theorem Own.grown {row : Option Nat} (h : Own k e w base v l) (hg : w.grownBy w' row) (hr : v.ownBlock = none ∨ v.ownBlock ≠ row) : Own k e w' base v l := ⟨h.1.kept hg hr, h.2⟩
theorem Own.below {B : Nat} (h : Own k e w base v l) (hb : Below B w w') (hv : ∀ g, v.ownBlock = some g → g < B) : Own k e w' base v l := by
  refine ⟨⟨h.1.1, ?_⟩, h.2⟩
  rcases h.1.2 with h2 | ⟨g, cap, cur, hv', hg, hh, r⟩
  · exact .inl h2
  · exact .inr ⟨g, cap, cur, hv', hg, (hb.block g (hv g (by rw [hv']; rfl))).trans hh, r⟩
end
theorem Ob.grown {w w' : World} {g : Nat} {t : TypeId} {cs : Array Value} {row : Option Nat} (h : Ob w g t cs) (hg : w.grownBy w' row) (hr : row ≠ some g) : Ob w' g t cs := (hg.block g h.lt (fun e => hr e.symm)).trans h
/-- A row that lies in blocks from base on is none of those below. -/
theorem Own.ne_low {k : IntKind} {e : TypeId} {w : World} {base : Nat} {v : Value} {l : List Int} (h : Own k e w base v l) {g : Nat} (hg : g < base) : v.ownBlock ≠ some g := by
  intro e'
  have := (h.lt g e').1
  omega
theorem Only.own_grown {k : IntKind} {e : TypeId} {w a b : World} {base : Nat} {v : Value} {l : List Int} {S : List Nat} (h : Only S w a) (hv : Own k e a base v l) (hg : a.grownBy b v.ownBlock) (hb : w.heap.size ≤ base) : Only S w b :=
  h.of_grown hg (fun i hi => .inr (Nat.le_trans hb (hv.lt i hi).1))
theorem only_below' {S : List Nat} {w a b : World} {B : Nat} (h : Only S w a) (hb : Below B a b) (hB : w.heap.size ≤ B) : Only S w b :=
  ⟨hb.os.trans h.os, hb.tape.trans h.tape, hb.output.trans h.output, Nat.le_trans h.size hb.size, fun k hk hn => (hb.block k (by omega)).trans (h.block k hk hn)⟩
end Go.Proofs.Ytdpmjghdmpaehaa
