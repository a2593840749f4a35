/-
  Chapter 2 (tally): the names, a board's cells, and the table from names to numbers, by a walk of its text. Conditions: none but those typed.
-/
import Derived.Test.YtlhbklbmaoekmaaDoorTalA
import Derived.MapKept
namespace Go.Proofs.YtlhbklbmaoekmaaDoor.tal
set_option linter.unusedVariables false
set_option linter.unusedSimpArgs false
open Go.ChangeShapes Go.WideShapes Go.ChangeAt Go.RowKit Go.IntWalk Go.Lib
def nml : List ByteArray := [⟨#[102, 114, 97, 109, 101, 115, 32, 105, 110]⟩, ⟨#[102, 114, 97, 109, 101, 115, 32, 111, 117, 116]⟩, ⟨#[110, 111, 116, 32, 111, 117, 114, 115]⟩, ⟨#[109, 97, 108, 102, 111, 114, 109, 101, 100]⟩, ⟨#[97, 114, 112, 32, 97, 115, 107, 101, 100]⟩, ⟨#[97, 114, 112, 32, 108, 111, 115, 116]⟩, ⟨#[102, 114, 97, 103, 109, 101, 110, 116, 115]⟩, ⟨#[112, 117, 116, 32, 116, 111, 103, 101, 116, 104, 101, 114]⟩, ⟨#[110, 111, 116, 32, 114, 111, 117, 116, 101, 100]⟩, ⟨#[105, 99, 109, 112, 32, 116, 111, 108, 100]⟩, ⟨#[105, 99, 109, 112, 32, 104, 101, 108, 100]⟩, ⟨#[117, 100, 112, 32, 105, 110]⟩, ⟨#[117, 100, 112, 32, 110, 111, 32, 112, 111, 114, 116]⟩, ⟨#[116, 99, 112, 32, 105, 110]⟩, ⟨#[116, 99, 112, 32, 115, 101, 110, 116, 32, 97, 103, 97, 105, 110]⟩, ⟨#[116, 99, 112, 32, 114, 101, 115, 101, 116]⟩, ⟨#[100, 114, 111, 112, 112, 101, 100, 32, 102, 117, 108, 108]⟩]
@[irreducible] def nm (i : Nat) : ByteArray := nml.getD i ⟨#[]⟩
theorem nm_eq (i : Nat) : nm i = nml.getD i ⟨#[]⟩ := by unfold nm; rfl
theorem nm_inj (i j : Nat) (hi : i < 17) (hj : j < 17) (h : nm i = nm j) : i = j := by
  have key : ∀ a b : Fin 17, nml.getD a.val ⟨#[]⟩ = nml.getD b.val ⟨#[]⟩ → a = b := by decide +kernel
  rw [nm_eq, nm_eq] at h
  have := key ⟨i, hi⟩ ⟨j, hj⟩ h
  exact congrArg Fin.val this
/-- A board's cells: its counters, the flag, the lock, the table. -/
def bd (L : List Int) (d st se : Int) (mv : Value) : Array Value := (L.map (Value.int .i64) ++ [.int .u32 d, .int .i32 st, .int .u32 se, mv]).toArray
section
variable {L : List Int} (hL : L.length = 17) (d st se : Int) (mv : Value)
include hL
theorem bd_at (i : Nat) (hi : i < 17) : (bd L d st se mv)[i]? = some (.int .i64 (L.getD i 0)) := by
  unfold bd
  rw [List.getElem?_toArray, List.getElem?_append_left (by simp; omega), List.getElem?_map, List.getD_eq_getElem?_getD, List.getElem?_eq_getElem (by omega)]
  rfl
theorem bd_hi (i : Nat) (hi : 17 ≤ i) : (bd L d st se mv)[i]? = [Value.int .u32 d, .int .i32 st, .int .u32 se, mv][i - 17]? := by
  unfold bd
  rw [List.getElem?_toArray, List.getElem?_append_right (by simp; omega), List.length_map, hL]
theorem bd17 : (bd L d st se mv)[17]? = some (.int .u32 d) := bd_hi hL d st se mv 17 (by omega)
theorem bd18 : (bd L d st se mv)[18]? = some (.int .i32 st) := bd_hi hL d st se mv 18 (by omega)
theorem bd19 : (bd L d st se mv)[19]? = some (.int .u32 se) := bd_hi hL d st se mv 19 (by omega)
theorem bd20 : (bd L d st se mv)[20]? = some mv := bd_hi hL d st se mv 20 (by omega)
theorem bd_set (i : Nat) (hi : i < 17) (v : Int) : (bd L d st se mv).setIfInBounds i (.int .i64 v) = bd (L.set i v) d st se mv := by
  unfold bd
  rw [List.setIfInBounds_toArray, List.set_append_left _ _ (by simp; omega), List.map_set]
theorem bd_sethi (i : Nat) (hi : 17 ≤ i) (v : Value) : (bd L d st se mv).setIfInBounds i v = (L.map (Value.int .i64) ++ [Value.int .u32 d, .int .i32 st, .int .u32 se, mv].set (i - 17) v).toArray := by
  unfold bd
  rw [List.setIfInBounds_toArray, List.set_append_right _ _ (by simp; omega), List.length_map, hL]
theorem bd_set17 (x : Int) : (bd L d st se mv).setIfInBounds 17 (.int .u32 x) = bd L x st se mv := bd_sethi hL d st se mv 17 (by omega) _
theorem bd_set18 (x : Int) : (bd L d st se mv).setIfInBounds 18 (.int .i32 x) = bd L d x se mv := bd_sethi hL d st se mv 18 (by omega) _
theorem bd_set20 (x : Value) : (bd L d st se mv).setIfInBounds 20 x = bd L d st se x := bd_sethi hL d st se mv 20 (by omega) _
end
/-- The table's first k entries. -/
def entr (k : Nat) : List MapEntry := (List.range k).map fun i => { key := .string (nm i), val := .int .i64 (i : Int), born := i }
theorem entr_next (k : Nat) : (entr k).toArray.push { key := .string (nm k), val := .int .i64 (k : Int), born := k } = (entr (k + 1)).toArray := by
  unfold entr
  rw [List.range_succ, List.map_append]
  simp
theorem entr_at (k j : Nat) (e : MapEntry) (h : (entr k)[j]? = some e) : j < k ∧ e.key = .string (nm j) ∧ e.val = .int .i64 (j : Int) := by
  unfold entr at h
  rw [List.getElem?_map] at h
  rcases Nat.lt_or_ge j k with h1 | h1
  · rw [List.getElem?_range h1] at h
    injection h with h
    subst h
    exact ⟨h1, rfl, rfl⟩
  · rw [List.getElem?_eq_none (by simpa using h1)] at h; cases h
theorem entr_keys (k : Nat) : ∀ x ∈ entr k, MapKept.IsKey .string x.key := by
  intro x hx
  obtain ⟨i, _, rfl⟩ := List.mem_map.1 hx
  simp [MapKept.IsKey]
theorem entr_new (k : Nat) (hk : k < 17) : Instr.findNow .string (.string (nm k)) (entr k) 0 = some none := by
  rcases MapKept.findNow_spec (d := .string) (k := .string (nm k)) (by simp [MapKept.IsKey]) (entr k) 0 (entr_keys k) with ⟨h, _⟩ | ⟨j, e, _, h2, h3⟩
  · exact h
  · obtain ⟨h4, h5, _⟩ := entr_at k j e h2
    rw [h5] at h3
    injection h3 with h3
    exact absurd (nm_inj j k (by omega) hk h3) (by omega)
/-- The number of a name; -1: none has it. -/
def NumIs (s : ByteArray) (v : Int) : Prop := (∃ j : Nat, j < 17 ∧ nm j = s ∧ v = (j : Int)) ∨ ((∀ j, j < 17 → nm j ≠ s) ∧ v = -1)
theorem NumIs.eq {s : ByteArray} {a b : Int} (h : NumIs s a) (k : NumIs s b) : a = b := by
  rcases h with ⟨i, hi, h1, h2⟩ | ⟨h1, h2⟩ <;> rcases k with ⟨j, hj, k1, k2⟩ | ⟨k1, k2⟩
  · have := nm_inj i j hi hj (by rw [h1, k1]); omega
  · exact absurd h1 (k1 i hi)
  · exact absurd k1 (h1 j hj)
  · omega
theorem entr_find (s : ByteArray) : (∃ j : Nat, j < 17 ∧ nm j = s ∧ Instr.findNow .string (.string s) (entr 17) 0 = some (some (j, .int .i64 (j : Int)))) ∨ ((∀ j, j < 17 → nm j ≠ s) ∧ Instr.findNow .string (.string s) (entr 17) 0 = some none) := by
  rcases MapKept.findNow_spec (d := .string) (k := .string s) (by simp [MapKept.IsKey]) (entr 17) 0 (entr_keys 17) with ⟨h, h2⟩ | ⟨j, e, h1, h2, h3⟩
  · refine .inr ⟨fun j hj hs => ?_, h⟩
    exact h2 ⟨.string (nm j), .int .i64 (j : Int), j⟩ (List.mem_map.2 ⟨j, List.mem_range.2 hj, rfl⟩) (by rw [← hs])
  · obtain ⟨h4, h5, h6⟩ := entr_at 17 j e h2
    rw [h5] at h3
    injection h3 with h3
    refine .inl ⟨j, h4, h3, ?_⟩
    rw [h1, h6, Nat.zero_add]
theorem run_upd (W : World) (r k : Nat) (hk : k < 17) (hb : W.heap[r]? = some (.map (entr k).toArray k)) :
    (Instr.mapUpdate 39 (.map (some r)) (.string (nm k)) (.int .i64 (k : Int))).run Tryd.prog W = .ok () { W with heap := W.heap.setIfInBounds r (.map (entr (k + 1)).toArray (k + 1)) } := by
  have hc : (Instr.checkKey false 10000 9 (.string (nm k))).run Tryd.prog W = .ok () W := MapKept.run_checkKey (k := .string (nm k)) Tryd.underlying9 (by simp [MapKept.IsKey]) false 9999
  simp [Instr.mapUpdate, run_underlying Tryd.underlying39, MapKept.run_getObj_map hb, hc, MapKept.run_findKey Tryd.underlying9 (entr_new k hk), MapKept.run_setObj_map _ hb, Result.andThen]
  rw [← entr_next]
  simp
theorem run_look (W : World) (r : Nat) (s : ByteArray) (hb : W.heap[r]? = some (.map (entr 17).toArray 17)) :
    (∃ j : Nat, j < 17 ∧ nm j = s ∧ (Instr.lookup 39 (.map (some r)) (.string s) true).run Tryd.prog W = .ok (.tuple #[.int .i64 (j : Int), .bool true]) W) ∨ ((∀ j, j < 17 → nm j ≠ s) ∧ (Instr.lookup 39 (.map (some r)) (.string s) true).run Tryd.prog W = .ok (.tuple #[.int .i64 0, .bool false]) W) := by
  have hc : ∀ e, (Instr.checkKey e 10000 9 (.string s)).run Tryd.prog W = .ok () W := fun e => MapKept.run_checkKey (k := .string s) Tryd.underlying9 (by simp [MapKept.IsKey]) e 9999
  have hz : (zeroValue 3).run Tryd.prog W = .ok (.int .i64 0) W := by kernel_rfl
  rcases entr_find s with ⟨j, hj, h1, h2⟩ | ⟨h1, h2⟩
  · refine .inl ⟨j, hj, h1, ?_⟩
    simp [Instr.lookup, run_underlying Tryd.underlying39, MapKept.run_getObj_map hb, hc, MapKept.run_findKey Tryd.underlying9 h2, Result.andThen]
  · refine .inr ⟨h1, ?_⟩
    simp [Instr.lookup, run_underlying Tryd.underlying39, MapKept.run_getObj_map hb, hc, MapKept.run_findKey Tryd.underlying9 h2, hz, Result.andThen]
theorem idx17 (k : Nat) (hk : k < 17) (W : World) : (Instr.index 70 (.agg #[.string (nm 0), .string (nm 1), .string (nm 2), .string (nm 3), .string (nm 4), .string (nm 5), .string (nm 6), .string (nm 7), .string (nm 8), .string (nm 9), .string (nm 10), .string (nm 11), .string (nm 12), .string (nm 13), .string (nm 14), .string (nm 15), .string (nm 16)]) (.int .i64 (k : Int))).run Tryd.prog W = .ok (.string (nm k)) W := by
  rcases (show k = 0 ∨ k = 1 ∨ k = 2 ∨ k = 3 ∨ k = 4 ∨ k = 5 ∨ k = 6 ∨ k = 7 ∨ k = 8 ∨ k = 9 ∨ k = 10 ∨ k = 11 ∨ k = 12 ∨ k = 13 ∨ k = 14 ∨ k = 15 ∨ k = 16 by omega) with rfl | rfl | rfl | rfl | rfl | rfl | rfl | rfl | rfl | rfl | rfl | rfl | rfl | rfl | rfl | rfl | rfl <;> kernel_rfl
theorem ob_map_put {W : World} {g r : Nat} {t : TypeId} {cs : Array Value} (h : Ob W g t cs) (hne : g ≠ r) (o : Obj) : Ob { W with heap := W.heap.setIfInBounds r o } g t cs := by
  have h1 : W.heap[g]? = _ := h
  show (W.heap.setIfInBounds r o)[g]? = _
  rw [Array.getElem?_setIfInBounds_ne (Ne.symm hne)]
  exact h1
theorem only_map_put {S : List Nat} {w W : World} (h : Only S w W) {r : Nat} (hr : w.heap.size ≤ r) (o : Obj) : Only S w { W with heap := W.heap.setIfInBounds r o } :=
  ⟨h.os, h.tape, h.output, by simpa using h.size, fun k hk hn => by
    show (W.heap.setIfInBounds r o)[k]? = _
    rw [Array.getElem?_setIfInBounds_ne (by omega)]
    exact h.block k hk hn⟩
end Go.Proofs.YtlhbklbmaoekmaaDoor.tal
