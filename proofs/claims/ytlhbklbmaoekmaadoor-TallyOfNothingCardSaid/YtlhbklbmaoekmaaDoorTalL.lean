/-
  Chapter 2 (tally): the table that the rows list: a world that holds it, and what it says of a cell. Conditions: none but those typed.
-/
import Derived.Test.YtlhbklbmaoekmaaDoorRows
import Derived.Test.YtlhbklbmaoekmaaDoorTalB
import Derived.ProofKit
import Derived.OpenShut
import Derived.Lib.LaidTab
import Derived.Deep.DeepHandedRow
import Derived.Shelf.Vars
namespace Go.Proofs.YtlhbklbmaoekmaaDoor.tal
set_option linter.unusedVariables false
set_option linter.unusedSimpArgs false
open Go.ChangeShapes Go.WideShapes Go.ChangeAt Go.RowKit
mutual
/-- A datum's cells. -/
def flat : DataW Unit → List Value
  | .agg l => flats l
  | .lit (.string s) => [.string ⟨s.toArray⟩]
  | _ => []
def flats : List (DataW Unit) → List Value
  | [] => []
  | d :: r => flat d ++ flats r
end
def put (d : DataW Unit) : Obj → Obj
  | .cells _ t fr => .cells (flat d).toArray t fr
  | o => o
def lay (h : Array Obj) : Array Obj := h.modify 0 (put Rows.laid_wharf_tally_names)
theorem laid_met (os : Os) (args : Array Value) : laidMet Tryd.prog Rows.tallyNamesRow.laid (({ World.holding Tryd.prog os ⟨#[], #[], []⟩ with heap := lay (World.holding Tryd.prog os ⟨#[], #[], []⟩).heap } : World).forCall (fun _ _ => 0) ⟨#[], args, []⟩).memory :=
  laidMet_of_run' 8 (by kernel_rfl) (by kernel_rfl)
theorem gTab : Tryd.prog.globalNamed "wharf/tally.names" = some 0 := by kernel_rfl
theorem tTab : (Tryd.prog.globals[0]?).map (·.type) = some 70 := by kernel_rfl
theorem cTab : Tryd.prog.cellsOf 70 = 17 := by kernel_rfl
theorem c1Tab : Tryd.prog.cellsOf 9 = 1 := by kernel_rfl
/-- An array of texts that reads as a list holds them, cell for cell. -/
theorem cells_of_strs {H : Type} {enc : TypeId × Value → H} {P : Program} {w : World} {base : Nat} {sp : Nat → Bool} {held : Bool} {fuel : Nat} {t e : TypeId} {n : Nat} {cs : List Value} {zs : List (List UInt8)} {p : List MemPlace}
    (ht : P.underlying t = some (.array n e)) (he : P.underlying e = some .string) (hce : P.cellsOf e = 1) (hct : P.cellsOf t = n)
    (h : DataW.trod enc P w base sp held fuel t cs = some (.agg (zs.map fun z => .lit (.string z)), p)) : cs = zs.map fun z => Value.string ⟨z.toArray⟩ := by
  cases fuel with
  | zero => simp [DataW.trod] at h
  | succ fuel =>
    simp only [DataW.trod, ht, hce, hct, Nat.mul_one] at h
    split at h
    · rename_i hl
      obtain ⟨xs, hm, hx⟩ := Option.map_eq_some_iff.1 h
      have hxs : xs.map (·.1) = zs.map fun z => (DataW.lit (.string z) : DataW H) := by
        have := congrArg Prod.fst hx
        simpa using this
      have hxl : xs.length = n := by simpa using Lib.mapM_length hm
      have hzl : zs.length = n := by
        have := congrArg List.length hxs
        simp at this
        omega
      apply List.ext_getElem?
      intro i
      by_cases hi : i < n
      · obtain ⟨b, hb, hf⟩ := Lib.mapM_at hm i i (by simp [hi])
        obtain ⟨z, hc, rfl, _⟩ := DataW.trod_string he hf
        have h1 : cs[i]? = some (.string z) := by
          have := congrArg (·[0]?) hc
          simpa [List.getElem?_take, List.getElem?_drop] using this
        have h2 : (xs.map (·.1))[i]? = some (DataW.lit (.string z.data.toList) : DataW H) := by simp [hb]
        rw [hxs] at h2
        simp only [List.getElem?_map, Option.map_eq_some_iff, DataW.lit.injEq, Lit.string.injEq] at h2
        obtain ⟨z', hz', rfl⟩ := h2
        simp [h1, hz']
      · rw [List.getElem?_eq_none (by omega), List.getElem?_eq_none (by simp; omega)]
    · cases h
theorem names_var {W : World} (h : laidMetH Tryd.prog Rows.tallyNamesRow.laid W) : W.var? Tryd.prog "wharf/tally.names" = some (nml.map Value.string).toArray := by
  have h' : laidMet Tryd.prog [("wharf/tally.names", Rows.laid_wharf_tally_names)] W := h
  obtain ⟨ps, ⟨g', t', cs, fuel, p, q, hg', ht', hvar, hd, _, _⟩, _⟩ := h'
  obtain rfl := Option.some.inj (gTab.symm.trans hg')
  obtain rfl := Option.some.inj (tTab.symm.trans ht')
  rw [hvar, show (Rows.laid_wharf_tally_names : DataW Unit) = .agg ((nml.map (·.data.toList)).map fun z => .lit (.string z)) from rfl] at *
  rw [show cs = ((nml.map (·.data.toList)).map fun z => Value.string ⟨z.toArray⟩).toArray from by
    have := cells_of_strs (zs := nml.map (·.data.toList)) Tryd.underlying70 Tryd.underlying9 c1Tab cTab hd
    rw [← this]]
  rfl
theorem names_tab {W : World} (h : laidMetH Tryd.prog Rows.tallyNamesRow.laid W) : ∀ i, i < 17 → W.cell? ⟨0, i, none⟩ = some (.string (nm i)) := fun i hi => by
  have h1 := World.var?_cell gTab (names_var h) i
  rw [h1, nm_eq]
  have hl : i < nml.length := hi
  rw [List.getElem?_toArray, List.getElem?_map, List.getD_eq_getElem?_getD, List.getElem?_eq_getElem hl]
  rfl
theorem names_lt {W : World} (h : laidMetH Tryd.prog Rows.tallyNamesRow.laid W) : 0 < W.heap.size := block_lt_of_cell (names_tab h 0 (by omega))
end Go.Proofs.YtlhbklbmaoekmaaDoor.tal
