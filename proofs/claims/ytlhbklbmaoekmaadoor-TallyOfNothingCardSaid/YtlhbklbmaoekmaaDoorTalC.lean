/-
  Chapter 2 (tally): a name's number, by a walk of its text and of sync.Once's. Conditions: none but those typed.
-/
import Derived.Test.YtlhbklbmaoekmaaDoorTalB
namespace Go.Proofs.YtlhbklbmaoekmaaDoor.tal
set_option linter.unusedVariables false
set_option linter.unusedSimpArgs false
open Go.ChangeShapes Go.WideShapes Go.ChangeAt Go.RowKit Go.IntWalk Go.Lib
theorem run_mk (W : World) : (Instr.makeMap 39 (some (.int .i64 17))).run Tryd.prog W = .ok (.map (some W.heap.size)) (W.alloc (.map #[] 0)) := by
  simp [Instr.makeMap, run_underlying Tryd.underlying39, asInt, asIntOf, Result.andThen]
theorem heap_keep {S : List Nat} {w W : World} {r : Nat} {o : Obj} (h : w.heap[r]? = some o) (q : Only S w W) (hr : r ∉ S) : W.heap[r]? = some o := (q.block r (Array.getElem?_eq_some_iff.1 h).1 hr).trans h
theorem tab_keep {w W : World} {g : Nat} (ht : ∀ i, i < 17 → w.cell? ⟨0, i, none⟩ = some (.string (nm i))) (o : Only [g] w W) (hg : w.heap.size ≤ g ∨ g ≠ 0) (h0 : 0 < w.heap.size) : ∀ i, i < 17 → W.cell? ⟨0, i, none⟩ = some (.string (nm i)) := fun i hi => by
  have hb := o.block 0 h0 (by simp; omega)
  exact (World.cell?_of_block (w := w) (w' := W) (a := ⟨0, i, none⟩) hb).trans (ht i hi)
set_option maxRecDepth 100000 in
set_option maxHeartbeats 4000000 in
theorem number1 (w : World) (g : Nat) (L : List Int) (hL : L.length = 17) (d st se : Int) (mv : Value) (hb : Ob w g 41 (bd L d st se mv)) (ht : ∀ i, i < 17 → w.cell? ⟨0, i, none⟩ = some (.string (nm i))) (hg0 : g ≠ 0) (h0 : 0 < w.heap.size) :
    Calls Tryd.prog 23 #[.pointer (some ⟨g, 0, none⟩)] w fun x w' => x = .returned (.tuple #[]) ∧ Ob w' g 41 (bd L d st se (.map (some w.heap.size))) ∧ w'.heap[w.heap.size]? = some (.map (entr 17).toArray 17) ∧ Only [g] w w' := by
  have hgl := hb.lt
  have OB0 := hid hb
  have O1 : Hid (Only [g] w ((w.setCell ⟨g, 20, none⟩ (.map (some w.heap.size))).alloc (.map #[] 0))) := hid (((Only.refl [g] w).setCell (p := ⟨g, 20, none⟩) (Or.inl (by simp)) _).alloc _)
  have OBa := hid (OB0.out.alloc (.map #[] 0))
  have OB1 : Hid (Ob ((w.setCell ⟨g, 20, none⟩ (.map (some w.heap.size))).alloc (.map #[] 0)) g 41 (bd L d st se (.map (some w.heap.size)))) := hid (by have h9 := (OB0.out.set 20 (.map (some w.heap.size))).alloc (.map #[] 0); rwa [bd_set20 hL] at h9)
  have HM1 : Hid (((w.setCell ⟨g, 20, none⟩ (.map (some w.heap.size))).alloc (.map #[] 0)).heap[w.heap.size]? = some (.map (entr 0).toArray 0)) := hid (by
    have h9 := (MapKept.heap_alloc (w.setCell ⟨g, 20, none⟩ (.map (some w.heap.size))) (.map #[] 0)).1
    rw [show (entr 0).toArray = #[] from rfl]
    simpa using h9)
  have HT1 := hid (tab_keep ht O1.out (.inr hg0) h0)
  have q0 : (w.alloc (.map #[] 0)).cell? ⟨g, 20, none⟩ = some mv := (OBa.out.cell 20).trans (bd20 hL d st se mv)
  have q1 : (w.alloc (.map #[] 0)).frozen? ⟨g, 20, none⟩ = false := OBa.out.frozen 20
  have hmk := run_mk
  have k0 := HT1.out 0 (by omega); have k1 := HT1.out 1 (by omega); have k2 := HT1.out 2 (by omega); have k3 := HT1.out 3 (by omega); have k4 := HT1.out 4 (by omega); have k5 := HT1.out 5 (by omega); have k6 := HT1.out 6 (by omega); have k7 := HT1.out 7 (by omega); have k8 := HT1.out 8 (by omega); have k9 := HT1.out 9 (by omega); have k10 := HT1.out 10 (by omega); have k11 := HT1.out 11 (by omega); have k12 := HT1.out 12 (by omega); have k13 := HT1.out 13 (by omega); have k14 := HT1.out 14 (by omega); have k15 := HT1.out 15 (by omega); have k16 := HT1.out 16 (by omega)
  clear hb ht
  go_enter Tryd.func23, Tryd.ntmps23
  go_wp2
  clear k0 k1 k2 k3 k4 k5 k6 k7 k8 k9 k10 k11 k12 k13 k14 k15 k16 q0 q1 hmk
  generalize hW : ((w.setCell ⟨g, 20, none⟩ (.map (some w.heap.size))).alloc (.map #[] 0)) = W1 at *
  have hsz : w.heap.size < W1.heap.size := by
    have := O1.out.size
    rcases Nat.lt_or_ge w.heap.size W1.heap.size with h | h
    · exact h
    · have h9 := HM1.out; rw [Array.getElem?_eq_none h] at h9; cases h9
  clear hW
  go_loopw [9] (fun i wr => ∃ k : Nat, k ≤ 17 ∧ i = .int .i64 k ∧ Hid (Ob wr g 41 (bd L d st se (.map (some w.heap.size)))) ∧ Hid (wr.heap[w.heap.size]? = some (.map (entr k).toArray k)) ∧ Hid (Only [g] w wr)) (fun i _ => 17 - (RowKit.intOf i).toNat)
  case atStart => exact ⟨0, by omega, rfl, OB1, HM1, O1⟩
  case round =>
    obtain ⟨k, hk, rfl, HO, HM, HQ⟩ := hrel
    by_cases hlt : k < 17
    · have x1 := idx17 k hlt wr
      have x2 := run_upd wr w.heap.size k hlt HM.out
      have x3 : wr.cell? ⟨g, 20, none⟩ = some (.map (some w.heap.size)) := (HO.out.cell 20).trans (bd20 hL d st se _)
      have hlt2 : (k : Int) < 17 := by omega
      go_wp2
      go_roundw
      case rel => exact ⟨k + 1, by omega, by go_num, hid (ob_map_put HO.out (by omega) _), hid ((MapKept.heap_set HM.out).1), hid (only_map_put HQ.out (by omega) _)⟩
      case measure => simp [RowKit.intOf]; omega
    · obtain rfl : k = 17 := by omega
      go_wp2
      refine bodyPost_end (results_none rfl _ _ _) rfl ?_
      exact ⟨rfl, HO.out, HM.out, HQ.out⟩
end Go.Proofs.YtlhbklbmaoekmaaDoor.tal
