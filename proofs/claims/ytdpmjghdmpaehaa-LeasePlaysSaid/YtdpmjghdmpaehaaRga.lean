/-
  Regions that draw their order and append to rows of bytes: one append, and what an object below keeps. Conditions: none.
-/
import Derived.Test.YtdpmjghdmpaehaaRgn
import Derived.Test.YtdpmjghdmpaehaaOwn
namespace Go.Proofs.Ytdpmjghdmpaehaa
set_option linter.unusedVariables false
set_option linter.unusedSimpArgs false
open Go.ChangeShapes Go.WideShapes Go.ChangeAt Go.RowKit Go.IntWalk Go.Lib
/-- Block g is as it was. -/
def Same (g : Nat) (w w' : World) : Prop := w'.heap[g]? = w.heap[g]?
theorem Same.refl (g : Nat) (w : World) : Same g w w := rfl
theorem Same.trans {g : Nat} (a b c : World) (h : Same g a b) (k : Same g b c) : Same g a c := Eq.trans k h
theorem Same.only {g : Nat} {w w' : World} (h : Only [] w w') (hg : g < w.heap.size) : Same g w w' := h.block g hg (by simp)
theorem Same.grown {g : Nat} {w w' : World} {row : Option Nat} (hg : w.grownBy w' row) (hl : g < w.heap.size) (hr : row ≠ some g) : Same g w w' := hg.block g hl (fun e => hr e.symm)
theorem Ob.same {w w' : World} {g : Nat} {t : TypeId} {cs : Array Value} (h : Ob w g t cs) (s : Same g w w') : Ob w' g t cs := Eq.trans s h
theorem Same.alloc {g : Nat} {w : World} (o : Obj) (hg : g < w.heap.size) : Same g w (w.alloc o) := Below.heap_alloc w o g hg
theorem Rd.belowOwn {k : IntKind} {w w' : World} {A : Option Addr} {n B : Nat} {l : List Int} (h : Rd k w A n l) (hb : Below B w w') (hB : w.heap.size ≤ B) : Rd k w' A n l := h.below hb hB
theorem own_notNil {k : IntKind} {e : TypeId} {w : World} {base : Nat} {v : Value} {l : List Int} {A : Option Addr} {n cap : Nat} (h : Own k e w base v l) (ev : v = .slice A n cap) : A = none → cap = 0 := by
  intro h0
  rcases h.1.2 with ⟨hv, _⟩ | ⟨g', cap', cur, hv, _⟩
  · rw [ev] at hv; injection hv
  · rw [ev, h0] at hv; cases hv
/-- One append, in a region. -/
theorem opApp {P : Program} {k : IntKind} {e : TypeId} {w : World} {o : Oper} {a : Act} {K : Act → World → Prop} {Q : Exit → Act → World → Prop} (hgd : o.guard = none) (s x : Operand) (t : TypeId)
    (ho : o.op = .call { callee := .builtin .append, args := #[s, x], argTypes := #[t, t] }) {bytes : Nat} (E : Elem P t e k bytes) (base : Nat) (v : Value) (xs : List Int) (hs : a.eval s = v) (hown : Own k e w base v xs)
    (A : Option Addr) (m c : Nat) (l : List Int) (hx : a.eval x = .slice A m c) (hr : Rd k w A m l) (hc0 : A = none → c = 0) (hb : (xs.length + m) * bytes ≤ 140737488355328) (h63 : xs.length + m ≤ maxLen) (hbase : base ≤ w.heap.size)
    (h : ∀ v' w', Own k e w' base v' (xs ++ l) → w.grownBy w' v.ownBlock → (v'.ownBlock = v.ownBlock ∨ v'.ownBlock = some w.heap.size) → K (a.put o.dst v') w') : Oper.wp P o a w K Q := by
  have h := step_app w (ops := #[]) (X := True) (Q := Q) hgd s x t ho E base v xs hs hown A m c l hx hr hc0 hb h63 hbase h
  rwa [if_pos (by simp [Region.wanted, hgd])] at h
end Go.Proofs.Ytdpmjghdmpaehaa
