/-
  Chapter 21 (name): strings.Contains at a dot, by the library's contract laid for this program; rows of bytes as texts. Conditions: none but those typed.
-/
import Derived.Test.YtfoecnlbiaiibaaNamB
import Derived.Test.YtfoecnlbiaiibaaBit
import Derived.Shelf.Strings.Search3
import Derived.Lib.IndexLaws
namespace Go.Proofs.Ytfoecnlbiaiibaa.nam
set_option linter.unusedVariables false
set_option linter.unusedSimpArgs false
section
open Go.Shelf Go.RowKit Go.Lib
def sh144_ren : Go.Shelf.Ren := ⟨fun | 144 => 29 | 143 => 45 | 219 => 53 | 217 => 60 | 225 => 61 | 224 => 62 | 267 => 63 | 266 => 64 | 314 => 65 | n => n, fun | 9 => 9 | 4 => 4 | 3 => 3 | 5 => 5 | 46 => 33 | 146 => 100 | 51 => 66 | n => n, fun | 1 => 0 | n => n⟩
theorem sh144 : Go.Proofs.Lays.n144 Try.prog sh144_ren := {
  mixed := by kernel_rfl
  f143 := Try.func45.trans (congrArg some (by kernel_rfl))
  f144 := Try.func29.trans (congrArg some (by kernel_rfl))
  f217 := Try.func60.trans (congrArg some (by kernel_rfl))
  f219 := Try.func53.trans (congrArg some (by kernel_rfl))
  f224 := Try.func62.trans (congrArg some (by kernel_rfl))
  f225 := Try.func61.trans (congrArg some (by kernel_rfl))
  f266 := Try.func64.trans (congrArg some (by kernel_rfl))
  f267 := Try.func63.trans (congrArg some (by kernel_rfl))
  f314 := Try.func65.trans (congrArg some (by kernel_rfl))
  t3 := Try.underlying3
  a3 := Try.isAgg3
  z3 := Try.sizeOf3
  v3 := Try.zeroValue3
  t4 := Try.underlying4
  a4 := Try.isAgg4
  z4 := Try.sizeOf4
  v4 := Try.zeroValue4
  t5 := Try.underlying5
  a5 := Try.isAgg5
  z5 := Try.sizeOf5
  v5 := Try.zeroValue5
  t9 := Try.underlying9
  a9 := Try.isAgg9
  z9 := Try.sizeOf9
  v9 := Try.zeroValue9
  t46 := Try.underlying33
  a46 := Try.isAgg33
  z46 := Try.sizeOf33
  v46 := Try.zeroValue33
  t51 := Try.underlying66
  a51 := Try.isAgg66
  z51 := Try.sizeOf66
  v51 := Try.zeroValue66
  t146 := Try.underlying100
  a146 := Try.isAgg100
  z146 := Try.sizeOf100
  v146 := Try.zeroValue100
  g1 := by kernel_rfl }
theorem shContains (s : ByteArray) (c : UInt8) (w : World) :
    Calls Try.prog 29 #[.string s, .string ⟨#[c]⟩] w fun e w' => e = .returned (.bool (decide (0 ≤ Lib.indexByte s.data.toList c))) ∧ w' = w := Any.strings_Contains_one sh144 s c w
end
open Go.ChangeShapes Go.WideShapes Go.ChangeAt Go.RowKit Go.IntWalk Go.Lib
theorem strData (l : List Int) : (strOfNums l).data.toList = l.map fun x => UInt8.ofNat x.toNat := by rw [strOfNums_data]
theorem dot_in (l : List Int) (h : ∀ x ∈ l, 0 ≤ x ∧ x ≤ 255) : decide (0 ≤ Lib.indexByte (strOfNums l).data.toList 46) = decide ((46 : Int) ∈ l) := by
  rw [strData]
  have key : (46 : Int) ∈ l ↔ (46 : UInt8) ∈ l.map fun x => UInt8.ofNat x.toNat := by
    rw [List.mem_map]
    constructor
    · intro hm; exact ⟨46, hm, rfl⟩
    · rintro ⟨x, hx, e⟩
      have := h x hx
      have e2 : (UInt8.ofNat x.toNat).toNat = 46 := by rw [e]; rfl
      rw [UInt8.toNat_ofNat'] at e2
      rw [show (46 : Int) = x from by omega]; exact hx
  generalize (l.map fun x => UInt8.ofNat x.toNat) = m at key
  rw [decide_eq_decide, key]
  have hge := Lib.indexByte_ge m 46
  constructor
  · intro h0
    obtain ⟨o, ho⟩ := Int.eq_ofNat_of_zero_le h0
    exact List.mem_of_getElem? (Lib.indexByte_some ho).1
  · intro hm
    by_cases h1 : Lib.indexByte m 46 = -1
    · obtain ⟨k, hk, e⟩ := List.mem_iff_getElem.1 hm
      exact absurd (by rw [List.getElem?_eq_getElem hk, e]) (Lib.indexByte_none h1 k)
    · omega
theorem contains1 (w : World) (l : List Int) (h : ∀ x ∈ l, 0 ≤ x ∧ x ≤ 255) : Calls Try.prog 29 #[.string (strOfNums l), .string ⟨#[46]⟩] w fun x w' => x = .returned (.bool (decide ((46 : Int) ∈ l))) ∧ w = w' := by
  have h1 := shContains (strOfNums l) 46 w
  rw [dot_in l h] at h1
  exact h1.mono fun x w' ⟨e, e2⟩ => ⟨e, e2.symm⟩
theorem strOf_app (a b : List Int) : strOfNums a ++ strOfNums b = strOfNums (a ++ b) := by
  apply ByteArray.ext
  apply Array.toList_inj.1
  rw [ByteArray.data_append, Array.toList_append, strData, strData, strData, List.map_append]
theorem strOf_size (l : List Int) : (strOfNums l).size = l.length := by
  show (strOfNums l).data.size = _
  rw [← Array.length_toList, strData, List.length_map]
theorem rd_bd {w : World} {A : Option Addr} {n : Nat} {l : List Int} (h : Rd .u8 w A n l) : ∀ x ∈ l, 0 ≤ x ∧ x ≤ 255 := fun x hx => u8Bd (h.wf x hx)
/-- Bytes turned into a text. -/
theorem convRd (w : World) (A : Option Addr) (n c : Nat) (l : List Int) (h : Rd .u8 w A n l) (hA : (A = none ∧ c = 0) ∨ ∃ b off, A = some ⟨b, off, none⟩) : (Go.convert 22 9 (.slice A n c)).run Try.prog w = .ok (.string (strOfNums l)) w := by
  rcases hA with ⟨rfl, rfl⟩ | ⟨b, off, rfl⟩
  · have hn : n = 0 := by
      rcases Nat.eq_zero_or_pos n with h0 | h0
      · exact h0
      · obtain ⟨b, off, e, _⟩ := h.cells h0; cases e
    subst hn
    obtain rfl : l = [] := List.eq_nil_of_length_eq_zero h.len
    first | rfl | (go_simp)
  · refine run_convert_bytes_arg w 22 5 Try.underlying22 Try.underlying5 b off n c l h.len (fun i hi => ?_) 9 Try.underlying9
    obtain ⟨b', off', e, hc⟩ := h.cells (by omega)
    injection e with e; injection e with e1 e2
    subst e1 e2
    exact hc i hi
end Go.Proofs.Ytfoecnlbiaiibaa.nam
