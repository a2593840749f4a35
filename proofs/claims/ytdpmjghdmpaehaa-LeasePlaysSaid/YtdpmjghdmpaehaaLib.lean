/-
  General lemmas on worlds, for walks of functions that keep objects of their own in memory: 'Only S w w'' says that of the blocks that were there none but those of the list S has turned. Conditions: none.
-/
import Derived.WalkKit
import Derived.ProofKit
import Derived.OpenShut
import Derived.IntWalk
import Derived.LoopTactic
import Derived.Lib.Hide
import Derived.Below
import Derived.Laws.Rows
import Derived.Deep.Draws
import Derived.StillTailTactics
import Derived.DataShut
namespace Go.Proofs.Ytdpmjghdmpaehaa
set_option linter.unusedVariables false
set_option linter.unusedSimpArgs false
open Go.ChangeShapes Go.WideShapes Go.ChangeAt Go.RowKit Go.IntWalk Go.Lib
theorem rInt {k : IntKind} {a b : Int} (h : a = b) : Ending.returned (.int k a) = .returned (.int k b) := by rw [h]
theorem rBool {a b : Bool} (h : a = b) : Ending.returned (.bool a) = .returned (.bool b) := by rw [h]
theorem rTwo {k l : IntKind} {a b c d : Int} (h : a = c) (h' : b = d) : Ending.returned (.tuple #[.int k a, .int l b]) = .returned (.tuple #[.int k c, .int l d]) := by rw [h, h']
theorem u8Bd {n : Int} (h : (Lit.int .u8 n).wf = true) : 0 ≤ n ∧ n ≤ 255 := (Lit.wf_int_iff .u8 n).1 h
theorem u16Bd {n : Int} (h : (Lit.int .u16 n).wf = true) : 0 ≤ n ∧ n ≤ 65535 := (Lit.wf_int_iff .u16 n).1 h
theorem u32Bd {n : Int} (h : (Lit.int .u32 n).wf = true) : 0 ≤ n ∧ n ≤ 4294967295 := (Lit.wf_int_iff .u32 n).1 h
theorem i64Bd {n : Int} (h : (Lit.int .i64 n).wf = true) : -9223372036854775808 ≤ n ∧ n ≤ 9223372036854775807 := (Lit.wf_int_iff .i64 n).1 h

/-- Of the blocks that were there, none but those of S has turned. -/
structure Only (S : List Nat) (w w' : World) : Prop where
  os : w'.os = w.os
  tape : w'.tape = w.tape
  output : w'.output = w.output
  size : w.heap.size ≤ w'.heap.size
  block : ∀ k, k < w.heap.size → k ∉ S → w'.heap[k]? = w.heap[k]?
theorem Only.refl (S : List Nat) (w : World) : Only S w w := ⟨rfl, rfl, rfl, Nat.le_refl _, fun _ _ _ => rfl⟩
theorem Only.trans {S : List Nat} {a b c : World} (h : Only S a b) (k : Only S b c) : Only S a c :=
  ⟨k.os.trans h.os, k.tape.trans h.tape, k.output.trans h.output, Nat.le_trans h.size k.size, fun i hi hs => (k.block i (Nat.lt_of_lt_of_le hi h.size) hs).trans (h.block i hi hs)⟩
theorem Only.more {S S' : List Nat} {a b : World} (h : Only S a b) (hs : ∀ k, k ∈ S → k ∈ S') : Only S' a b :=
  ⟨h.os, h.tape, h.output, h.size, fun i hi hn => h.block i hi (fun hk => hn (hs i hk))⟩
/-- What is new in the world is nobody's business. -/
theorem Only.fresh {S S' : List Nat} {a b c : World} (h : Only S a b) (k : Only S' b c) (hs : ∀ i, i ∈ S' → i ∈ S ∨ a.heap.size ≤ i) : Only S a c :=
  ⟨k.os.trans h.os, k.tape.trans h.tape, k.output.trans h.output, Nat.le_trans h.size k.size, fun i hi hn => (k.block i (Nat.lt_of_lt_of_le hi h.size) (fun hk => by rcases hs i hk with h1 | h1; exact hn h1; omega)).trans (h.block i hi hn)⟩
theorem Only.drew {S : List Nat} {a w : World} (h : Only S a w) : Only S a w.drew := ⟨h.os, h.tape, h.output, h.size, h.block⟩
theorem Only.drewN {S : List Nat} {a w : World} (h : Only S a w) (n : Nat) : Only S a (w.drewN n) := ⟨h.os, h.tape, h.output, h.size, h.block⟩
theorem Only.alloc {S : List Nat} {a w : World} (h : Only S a w) (o : Obj) : Only S a (w.alloc o) :=
  h.trans ⟨rfl, rfl, rfl, by simp, fun k hk _ => Below.heap_alloc _ _ _ hk⟩
theorem Only.setCell {S : List Nat} {a w : World} (h : Only S a w) {p : Addr} (hp : p.block ∈ S ∨ a.heap.size ≤ p.block) (u : Value) : Only S a (w.setCell p u) :=
  ⟨h.os, h.tape, h.output, by simpa [World.setCell] using h.size, fun k hk hn => (Below.heap_setCell _ _ _ _ (fun e => by subst e; rcases hp with h1 | h1; exact hn h1; omega)).trans (h.block k hk hn)⟩
theorem Only.of_grown {S : List Nat} {a w w' : World} {row : Option Nat} (h : Only S a w) (hg : w.grownBy w' row) (hr : ∀ k, row = some k → k ∈ S ∨ a.heap.size ≤ k) : Only S a w' :=
  ⟨hg.os.trans h.os, hg.tape.trans h.tape, hg.output.trans h.output, Nat.le_trans h.size hg.size,
   fun k hk hn => (hg.block k (Nat.lt_of_lt_of_le hk h.size) (fun e => by rcases hr k e.symm with h1 | h1; exact hn h1; omega)).trans (h.block k hk hn)⟩
theorem Only.of_below {S : List Nat} {w w' : World} (h : Below w.heap.size w w') : Only S w w' := ⟨h.os, h.tape, h.output, h.size, fun k hk _ => h.block k hk⟩
theorem Only.below {S : List Nat} {B : Nat} {a w w' : World} (hb : Below B a w) (h : Only S w w') (hB : B ≤ w.heap.size) (hs : ∀ k, k ∈ S → B ≤ k) : Below B a w' :=
  hb.trans ⟨h.os, h.tape, h.output, h.size, fun k hk => h.block k (by omega) (fun hm => by have := hs k hm; omega)⟩
theorem Only.below_nil {w w' : World} (h : Only [] w w') : Below w.heap.size w w' := ⟨h.os, h.tape, h.output, h.size, fun k hk => h.block k hk (by simp)⟩
theorem Only.cell {S : List Nat} {w w' : World} (h : Only S w w') {p : Addr} (hp : p.block < w.heap.size) (hn : p.block ∉ S) : w'.cell? p = w.cell? p := World.cell?_of_block (w := w) (h.block p.block hp hn)
theorem Only.frozen {S : List Nat} {w w' : World} (h : Only S w w') {p : Addr} (hp : p.block < w.heap.size) (hn : p.block ∉ S) : w'.frozen? p = w.frozen? p := World.frozen?_of_block (w := w) (h.block p.block hp hn)

theorem Only.keep {w w' : World} (h : Only [] w w') {p : Addr} {v : Value} (k : w.cell? p = some v) : w'.cell? p = some v := (h.cell (World.block_lt_of_cell? w p k) (by simp)).trans k
theorem Only.keepN {S : List Nat} {w w' : World} (h : Only S w w') {p : Addr} {v : Value} (k : w.cell? p = some v) (hn : p.block ∉ S) : w'.cell? p = some v := (h.cell (World.block_lt_of_cell? w p k) hn).trans k
/-- A block that is known whole: its cells, none of them frozen. -/
def Ob (w : World) (g : Nat) (t : TypeId) (cs : Array Value) : Prop := w.heap[g]? = some (.cells cs t (0, 0))
theorem Ob.lt {w : World} {g : Nat} {t : TypeId} {cs : Array Value} (h : Ob w g t cs) : g < w.heap.size := by
  rcases Nat.lt_or_ge g w.heap.size with hl | hl
  · exact hl
  · unfold Ob at h; rw [Array.getElem?_eq_none hl] at h; cases h
theorem Ob.cell {w : World} {g : Nat} {t : TypeId} {cs : Array Value} (h : Ob w g t cs) (i : Nat) : w.cell? ⟨g, i, none⟩ = cs[i]? := cell_of_row w g i cs t (0, 0) h
theorem Ob.frozen {w : World} {g : Nat} {t : TypeId} {cs : Array Value} (h : Ob w g t cs) (i : Nat) : w.frozen? ⟨g, i, none⟩ = false := frozen_of_row w g i cs t h
theorem Ob.new (w : World) (t : TypeId) (cs : Array Value) : Ob (w.alloc (.cells cs t)) w.heap.size t cs := heap_alloc_new w _
theorem Ob.alloc {w : World} {g : Nat} {t : TypeId} {cs : Array Value} (h : Ob w g t cs) (o : Obj) : Ob (w.alloc o) g t cs := (Below.heap_alloc w o g h.lt).trans h
theorem Ob.set {w : World} {g : Nat} {t : TypeId} {cs : Array Value} (h : Ob w g t cs) (i : Nat) (v : Value) : Ob (w.setCell ⟨g, i, none⟩ v) g t (cs.setIfInBounds i v) := by
  unfold Ob at h ⊢; rw [heap_setCell_same w g i cs t v h]
theorem Ob.far {w : World} {g : Nat} {t : TypeId} {cs : Array Value} (h : Ob w g t cs) {p : Addr} (hp : g ≠ p.block) (v : Value) : Ob (w.setCell p v) g t cs := (heap_setCell_other w p g v hp).trans h
theorem Ob.only {w w' : World} {g : Nat} {t : TypeId} {cs : Array Value} {S : List Nat} (h : Ob w g t cs) (ho : Only S w w') (hn : g ∉ S) : Ob w' g t cs := (ho.block g h.lt hn).trans h
theorem Ob.below {w w' : World} {g : Nat} {t : TypeId} {cs : Array Value} {B : Nat} (h : Ob w g t cs) (hb : Below B w w') (hg : g < B) : Ob w' g t cs := (hb.block g hg).trans h
theorem Ob.drew {w : World} {g : Nat} {t : TypeId} {cs : Array Value} (h : Ob w g t cs) : Ob w.drew g t cs := h
theorem Ob.drewN {w : World} {g : Nat} {t : TypeId} {cs : Array Value} (h : Ob w g t cs) (n : Nat) : Ob (w.drewN n) g t cs := h
theorem callsOnly {P : Program} {f : FuncId} {args : Array Value} {w : World} {E : Ending} (h : Calls P f args w fun x w' => x = E ∧ ∃ m, w' = w.drewN m) : Calls P f args w fun x w' => x = E ∧ Only [] w w' :=
  h.mono (by rintro x w' ⟨rfl, m, rfl⟩; exact ⟨rfl, (Only.refl [] w).drewN m⟩)
/-- A region whose operations but the last ones only read: the world is given a name. -/
theorem stillTail {P : Program} {id : Nat} {Q : Exit → Act → World → Prop} {a : Act} {w : World} {l : List Oper} (n : Nat) (hm : P.follows .mixedOrders = true) (hB : Region.lexTailB .any l.toArray n = true)
    (h : ∀ W : World, W = w.drew → wpStill P l.toArray W (fun a' => wpList P l.toArray Q (l.drop n) a' W) (l.take n) a) : (Code.region id l.toArray true).wp P Q a w :=
  wp_region_still_tail n hm hB (h _ rfl)
/-- A slice of numbers that came in: nil, or a row of cap cells that hold zs. -/
def IsRow (k : IntKind) (w : World) (a : Option Addr) (len cap : Nat) (zs : List Int) : Prop :=
  (a = none ∧ len = 0 ∧ cap = 0 ∧ zs = []) ∨
  ∃ x, a = some x ∧ len ≤ cap ∧ cap ≤ maxLen ∧ zs.length = cap ∧ (∀ i, i < zs.length → w.cell? (x.add i) = some (.int k (zs.getD i 0))) ∧ ∀ n ∈ zs, (Lit.int k n).wf = true
theorem Only.eq_drew {S : List Nat} {a w W : World} (h : Only S a w) (e : W = w.drew) : Only S a W := by subst e; exact h.drew
theorem Ob.eq_drew {w W : World} {g : Nat} {t : TypeId} {cs : Array Value} (h : Ob w g t cs) (e : W = w.drew) : Ob W g t cs := by subst e; exact h
theorem Ob.eq_set {w W : World} {g : Nat} {t : TypeId} {cs : Array Value} (h : Ob w g t cs) {i : Nat} {v : Value} (e : W = w.setCell ⟨g, i, none⟩ v) : Ob W g t (cs.setIfInBounds i v) := by subst e; exact h.set i v
theorem Ob.eq_far {w W : World} {g : Nat} {t : TypeId} {cs : Array Value} (h : Ob w g t cs) {p : Addr} {v : Value} (e : W = w.setCell p v) (hp : g ≠ p.block) : Ob W g t cs := by subst e; exact h.far hp v
theorem Only.eq_set {S : List Nat} {a w W : World} (h : Only S a w) {p : Addr} {v : Value} (e : W = w.setCell p v) (hp : p.block ∈ S ∨ a.heap.size ≤ p.block) : Only S a W := by subst e; exact h.setCell hp v
end Go.Proofs.Ytdpmjghdmpaehaa
