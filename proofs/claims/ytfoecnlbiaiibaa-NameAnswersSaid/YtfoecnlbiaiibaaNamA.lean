/-
  Chapter 21 (name): small letters, a text's bytes as numbers, and a row that a text was turned into. Conditions: none but those typed.
-/
import Derived.Test.YtfoecnlbiaiibaaRows
import Derived.Test.YtfoecnlbiaiibaaOwn
import Derived.Laws.EntriesVeiled
import Derived.Laws.Strings
import Derived.Laws.BytesArg
import Derived.Laws.IdiomStrings
import Derived.Laws.StructEq
import Derived.Lib.Bytes
namespace Go.Proofs.Ytfoecnlbiaiibaa.nam
set_option linter.unusedVariables false
set_option linter.unusedSimpArgs false
open Go.ChangeShapes Go.WideShapes Go.ChangeAt Go.RowKit Go.IntWalk Go.Lib
/-- A text's byte at a place. -/
def ch (s : ByteArray) (i : Nat) : Int := ((s.data.toList.getD i 0).toNat : Int)
theorem ch_bd (s : ByteArray) (i : Nat) : 0 ≤ ch s i ∧ ch s i ≤ 255 := by
  unfold ch
  have := (s.data.toList.getD i 0).toNat_lt
  omega
theorem ixs (s : ByteArray) (i : Nat) (h : i < s.size) (W : World) : (Instr.index 9 (.string s) (.int .i64 (i : Int))).run Try.prog W = .ok (.int .u8 (ch s i)) W := by
  rw [run_index_string W 9 s .i64 (i : Int) Try.underlying9, dif_pos ⟨by omega, by omega⟩]
  have hl : i < s.data.toList.length := by rw [Array.length_toList]; exact h
  have e : (s[((i : Nat) : Int).toNat]'(by omega)) = s.data.toList.getD i 0 := by
    simp only [Int.toNat_natCast]
    rw [List.getD_eq_getElem?_getD, List.getElem?_eq_getElem hl]
    rfl
  unfold ch
  rw [e]
def low (c : Int) : Int := if 65 ≤ c ∧ c ≤ 90 then c + 32 else c
theorem low_bd (c : Int) (h : 0 ≤ c ∧ c ≤ 255) : 0 ≤ low c ∧ low c ≤ 255 := by unfold low; split <;> omega
theorem low_low (c : Int) : low (low c) = low c := by
  by_cases h : 65 ≤ c ∧ c ≤ 90
  · have e : low c = c + 32 := if_pos h
    rw [e]; exact if_neg (by omega)
  · have e : low c = c := if_neg h
    rw [e, e]
def chs (s : ByteArray) : List Int := s.data.toList.map fun b => (b.toNat : Int)
theorem chs_len (s : ByteArray) : (chs s).length = s.size := by unfold chs; rw [List.length_map, Array.length_toList]; rfl
theorem chs_at (s : ByteArray) (i : Nat) : (chs s).getD i 0 = ch s i := by
  unfold chs ch
  rw [List.getD_eq_getElem?_getD, List.getElem?_map, List.getD_eq_getElem?_getD]
  cases s.data.toList[i]? <;> rfl
@[irreducible] def lw (s : ByteArray) : List Int := (chs s).map low
theorem lw_eq (s : ByteArray) : lw s = (chs s).map low := by unfold lw; rfl
theorem lw_len (s : ByteArray) : (lw s).length = s.size := by rw [lw_eq, List.length_map, chs_len]
theorem lw_at (s : ByteArray) (i : Nat) (h : i < s.size) : (lw s).getD i 0 = low (ch s i) := by
  rw [lw_eq, ← chs_at, List.getD_eq_getElem?_getD, List.getElem?_map, List.getD_eq_getElem?_getD, List.getElem?_eq_getElem (by rw [chs_len]; exact h)]
  rfl
theorem lw_bd (s : ByteArray) (x : Int) (h : x ∈ lw s) : 0 ≤ x ∧ x ≤ 255 := by
  rw [lw_eq] at h
  obtain ⟨c, hc, rfl⟩ := List.mem_map.1 h
  obtain ⟨b, hb, rfl⟩ := List.mem_map.1 hc
  have := b.toNat_lt
  exact low_bd _ (by omega)
theorem chs_nums (l : List Int) (h : ∀ x ∈ l, 0 ≤ x ∧ x ≤ 255) : chs (strOfNums l) = l := by
  unfold chs
  rw [strOfNums_data, List.map_map]
  conv => rhs; rw [← List.map_id l]
  apply List.map_congr_left
  intro x hx
  have := h x hx
  simp only [Function.comp_apply, id_eq, UInt8.toNat_ofNat']
  omega
/-- A text in small letters. -/
@[irreducible] def sml (s : ByteArray) : ByteArray := strOfNums (lw s)
theorem sml_eq (s : ByteArray) : sml s = strOfNums (lw s) := by unfold sml; rfl
theorem chs_sml (s : ByteArray) : chs (sml s) = lw s := by rw [sml_eq]; exact chs_nums _ (lw_bd s)
theorem sml_size (s : ByteArray) : (sml s).size = s.size := by rw [← chs_len, chs_sml, lw_len]
theorem lw_sml (s : ByteArray) : lw (sml s) = lw s := by
  rw [lw_eq (sml s), chs_sml, lw_eq, List.map_map]
  apply List.map_congr_left
  intro x _
  exact low_low x
theorem sml_inj (a b : ByteArray) : sml a = sml b ↔ lw a = lw b := by
  constructor
  · intro h; rw [← chs_sml a, ← chs_sml b, h]
  · intro h; rw [sml_eq, sml_eq, h]
/-- Two texts are one name. -/
@[irreducible] def sm (a b : ByteArray) : Bool := decide (lw a = lw b)
theorem sm_eq (a b : ByteArray) : sm a b = decide (lw a = lw b) := by unfold sm; rfl
theorem sm_symm (a b : ByteArray) : sm b a = sm a b := by
  rw [sm_eq, sm_eq]
  exact decide_eq_decide.2 ⟨Eq.symm, Eq.symm⟩
theorem sm_sml (a : ByteArray) : sm a (sml a) = true := by rw [sm_eq, lw_sml]; simp
theorem sm_beq (a b : ByteArray) : ((sml a).toList == (sml b).toList) = sm a b := by
  rw [sm_eq]
  by_cases h : lw a = lw b
  · rw [decide_eq_true h, (sml_inj a b).2 h]; simp
  · rw [decide_eq_false h]
    refine beq_eq_false_iff_ne.2 fun e => h ((sml_inj a b).1 ?_)
    rw [ByteArray.toList_eq, ByteArray.toList_eq] at e
    exact ByteArray.ext (Array.toList_inj.1 e)
theorem sm_size (a b : ByteArray) (h : ¬ a.size = b.size) : sm a b = false := by
  rw [sm_eq]
  exact decide_eq_false fun e => h (by rw [← lw_len, ← lw_len, e])
theorem sm_at (a b : ByteArray) (i : Nat) (ha : i < a.size) (hb : i < b.size) (h : ¬ low (ch a i) = low (ch b i)) : sm a b = false := by
  rw [sm_eq]
  exact decide_eq_false fun e => h (by rw [← lw_at a i ha, ← lw_at b i hb, e])
theorem sm_all (a b : ByteArray) (hs : a.size = b.size) (h : ∀ i, i < a.size → low (ch a i) = low (ch b i)) : sm a b = true := by
  rw [sm_eq]
  refine decide_eq_true (List.ext_getElem (by rw [lw_len, lw_len, hs]) fun i h1 h2 => ?_)
  have k1 : i < a.size := by rwa [lw_len] at h1
  have k2 : i < b.size := by omega
  have e1 := lw_at a i k1; have e2 := lw_at b i k2
  rw [List.getD_eq_getElem?_getD, List.getElem?_eq_getElem h1] at e1
  rw [List.getD_eq_getElem?_getD, List.getElem?_eq_getElem h2] at e2
  simp only [Option.getD_some] at e1 e2
  rw [e1, e2, h i k1]
/-- A row of bytes that a text was turned into: the mark lies behind it. -/
def BR (w : World) (g : Nat) (e : TypeId) (z : List Int) : Prop := w.heap[g]? = some (.cells (z.map (Value.int .u8)).toArray e (z.length, z.length + 1))
section
variable {w w' : World} {g : Nat} {e : TypeId} {z : List Int}
theorem BR.lt (h : BR w g e z) : g < w.heap.size := by
  rcases Nat.lt_or_ge g w.heap.size with hl | hl
  · exact hl
  · unfold BR at h; rw [Array.getElem?_eq_none hl] at h; cases h
theorem BR.cell (h : BR w g e z) (j : Nat) (hj : j < z.length) : w.cell? ⟨g, j, none⟩ = some (.int .u8 (z.getD j 0)) := by
  rw [cell_of_row w g j _ _ _ h]
  simp [hj, List.getD_eq_getElem?_getD]
theorem BR.frozen (h : BR w g e z) (j : Nat) (hj : j < z.length) : w.frozen? ⟨g, j, none⟩ = false := by
  unfold BR at h
  simp only [World.frozen?, h]
  simp; omega
theorem BR.set (h : BR w g e z) (j : Nat) (v : Int) : BR (w.setCell ⟨g, j, none⟩ (.int .u8 v)) g e (z.set j v) := by
  unfold BR at h ⊢
  simp [World.setCell, Array.getElem?_modify, h, List.map_set]
theorem BR.only {S : List Nat} (h : BR w g e z) (ho : Only S w w') (hn : g ∉ S) : BR w' g e z := (ho.block g h.lt hn).trans h
end
/-- A text turned into bytes. -/
theorem conv_of (w : World) (src dst e : TypeId) (s : ByteArray) (hs : (Try.prog).underlying src = some .string) (hd : (Try.prog).underlying dst = some (.slice e)) (he : (Try.prog).underlying e = some (.int .u8)) :
    ∃ cap r W, (Go.convert src dst (.string s)).run Try.prog w = .ok (.slice (some ⟨w.heap.size, 0, none⟩) s.size cap) W ∧ Hid (BR W w.heap.size e (chs s ++ r)) ∧ Hid (Only [] w W) ∧ s.size ≤ cap := by
  refine ⟨_, List.replicate (grownCap w s.size 0 e - s.size) 0, _, run_bytes_of_string w src dst e s hs hd he, hid ?_, hid ?_, grownCap_ge w s.size 0 e⟩
  · have hz : bytesRow s (grownCap w s.size 0 e) = ((chs s ++ List.replicate (grownCap w s.size 0 e - s.size) 0).map (Value.int .u8)).toArray := by
      unfold bytesRow chs
      apply Array.ext'
      simp
    unfold BR
    rw [hz]
    show (w.drew.alloc _).heap[w.drew.heap.size]? = _
    rw [heap_alloc_new]
    simp
  · exact ((Only.refl [] w).drew).alloc _
/-- Bytes turned into a text. -/
theorem conv_back (w : World) (src dst e : TypeId) (g cap : Nat) (s : ByteArray) (z : List Int) (hs : (Try.prog).underlying src = some (.slice e)) (hd : (Try.prog).underlying dst = some .string) (he : (Try.prog).underlying e = some (.int .u8)) (hb : BR w g e z)
    (hz : s.size ≤ z.length) (h : ∀ j, j < s.size → z.getD j 0 = low (ch s j)) : (Go.convert src dst (.slice (some ⟨g, 0, none⟩) s.size cap)).run Try.prog w = .ok (.string (sml s)) w := by
  rw [sml_eq]
  exact run_convert_bytes_arg w src e hs he g 0 s.size cap (lw s) (lw_len s) (fun i hi => by rw [Nat.zero_add, hb.cell i (by omega), h i hi, lw_at s i hi]) dst hd
end Go.Proofs.Ytfoecnlbiaiibaa.nam
