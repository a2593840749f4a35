/-
  Chapter 21 (name): the labels of a text, plainly; what one step of a range over a string passes. Conditions: none but those typed.
-/
import Derived.Test.YtfoecnlbiaiibaaNamT
import Derived.Test.YtfoecnlbiaiibaaNamS
import Derived.Lib.OthersKept
import Derived.Laws.Strings2
namespace Go.Proofs.Ytfoecnlbiaiibaa.nam
set_option linter.unusedVariables false
set_option linter.unusedSimpArgs false
open Go.ChangeShapes Go.WideShapes Go.ChangeAt Go.RowKit Go.IntWalk Go.Lib
/-- What stands between the dots. -/
def cutF : List Int → List Int → List (List Int)
  | cur, [] => [cur]
  | cur, x :: l => if x = 46 then cur :: cutF [] l else cutF (cur ++ [x]) l
@[irreducible] def labsOf (L : List Int) : List (List Int) := if L = [] then [] else cutF [] L
theorem labsOf_nil : labsOf [] = [] := by unfold labsOf; rfl
theorem labsOf_ne {L : List Int} (h : L ≠ []) : labsOf L = cutF [] L := by unfold labsOf; rw [if_neg h]
theorem cutF_dot (cur l : List Int) : cutF cur (46 :: l) = cur :: cutF [] l := by conv => lhs; unfold cutF; rw [if_pos rfl]
theorem cutF_not (cur l : List Int) {x : Int} (h : x ≠ 46) : cutF cur (x :: l) = cutF (cur ++ [x]) l := by conv => lhs; unfold cutF; rw [if_neg h]
theorem cutF_nil (cur : List Int) : cutF cur [] = [cur] := by unfold cutF; rfl
theorem cutF_skip (l : List Int) : ∀ (p cur : List Int), (∀ x ∈ p, x ≠ 46) → cutF cur (p ++ l) = cutF (cur ++ p) l
  | [], cur, _ => by simp
  | x :: p, cur, h => by
    rw [List.cons_append, cutF_not _ _ (h x (by simp)), cutF_skip l p _ (fun y hy => h y (by simp [hy]))]
    simp
/-- From a to b of a list. -/
def seg (L : List Int) (a b : Nat) : List Int := (L.drop a).take (b - a)
theorem seg_len {L : List Int} {a b : Nat} (h : b ≤ L.length) : (seg L a b).length = b - a := by unfold seg; rw [List.length_take, List.length_drop]; omega
theorem seg_self (L : List Int) (a : Nat) : seg L a a = [] := by unfold seg; simp
theorem seg_app {L : List Int} {a b c : Nat} (h : a ≤ b) (h2 : b ≤ c) : seg L a b ++ seg L b c = seg L a c := by
  unfold seg
  have : L.drop b = (L.drop a).drop (b - a) := by rw [List.drop_drop]; congr 1; omega
  rw [this]
  have h3 : c - a = (b - a) + (c - b) := by omega
  rw [h3, List.take_add]
theorem drop_seg {L : List Int} {a b : Nat} (h : a ≤ b) : L.drop a = seg L a b ++ L.drop b := by
  unfold seg
  have : L.drop b = (L.drop a).drop (b - a) := by rw [List.drop_drop]; congr 1; omega
  rw [this, List.take_append_drop]
theorem seg_get {L : List Int} {a b : Nat} {x : Int} (h : x ∈ seg L a b) : ∃ j, a ≤ j ∧ j < b ∧ j < L.length ∧ L.getD j 0 = x := by
  obtain ⟨k, hk, e⟩ := List.getElem_of_mem h
  unfold seg at hk e
  rw [List.length_take, List.length_drop] at hk
  rw [List.getElem_take, List.getElem_drop] at e
  refine ⟨a + k, by omega, by omega, by omega, ?_⟩
  rw [List.getD_eq_getElem?_getD, List.getElem?_eq_getElem (by omega)]
  exact e
/-- The loop's step at a dot. -/
theorem cut_dot {L : List Int} {first pos : Nat} (h : first ≤ pos) (hp : pos < L.length) (e : L.getD pos 0 = 46) : cutF (seg L first pos) (L.drop pos) = seg L first pos :: cutF (seg L (pos + 1) (pos + 1)) (L.drop (pos + 1)) := by
  rw [seg_self, List.drop_eq_getElem_cons hp]
  have : L[pos] = 46 := by rw [List.getD_eq_getElem?_getD, List.getElem?_eq_getElem hp] at e; exact e
  rw [this, cutF_dot]
/-- The loop's step at what holds no dot. -/
theorem cut_not {L : List Int} {first pos n : Nat} (h : first ≤ pos) (e : ∀ j, pos ≤ j → j < pos + n → j < L.length → L.getD j 0 ≠ 46) : cutF (seg L first pos) (L.drop pos) = cutF (seg L first (pos + n)) (L.drop (pos + n)) := by
  rw [drop_seg (b := pos + n) (a := pos) (by omega), cutF_skip _ _ _ (fun x hx => ?_), seg_app h (by omega)]
  obtain ⟨j, h1, h2, h3, rfl⟩ := seg_get hx
  exact e j h1 h2 h3
theorem cut_end {L : List Int} {first : Nat} : cutF (seg L first L.length) (L.drop L.length) = [seg L first L.length] := by rw [List.drop_length, cutF_nil]
/-- What a step of a range over a string passes. -/
theorem ch_get (s : ByteArray) (i : Nat) (h : i < s.size) : ch s i = ((s[i]'h).toNat : Int) := by
  unfold ch
  have h2 : i < s.data.toList.length := by rw [Array.length_toList]; exact h
  rw [List.getD_eq_getElem?_getD, List.getElem?_eq_getElem h2]
  rfl
theorem dec_width (s : ByteArray) (pos : Nat) (h : pos < s.size) : 1 ≤ (Utf8.decode s pos).2 ∧ pos + (Utf8.decode s pos).2 ≤ s.size ∧ ∀ j, pos < j → j < pos + (Utf8.decode s pos).2 → 128 ≤ (s.get! j).toNat := by
  simp only [Utf8.decode]
  repeat' split
  all_goals refine ⟨by simp, ?_, ?_⟩
  all_goals first | (intro j h1 h2; exact absurd h2 (by simp; omega)) | skip
  all_goals simp_all
  all_goals first | omega | skip
  all_goals intro j h1 h2
  · obtain rfl : j = pos + 1 := by omega
    omega
  · have : j = pos + 1 ∨ j = pos + 2 := by omega
    rcases this with rfl | rfl <;> omega
  · have : j = pos + 1 ∨ j = pos + 2 ∨ j = pos + 3 := by omega
    rcases this with rfl | rfl | rfl <;> omega
theorem get_ch (s : ByteArray) (i : Nat) (h : i < s.size) : ((s.get! i).toNat : Int) = ch s i := by
  rw [ch_get s i h]
  have := get_at s i h
  rw [Nat.add_zero] at this
  rw [this]
/-- The rune is a dot when the byte is one, and then it is one byte; else no dot is passed. -/
theorem dec_step (s : ByteArray) (pos : Nat) (h : pos < s.size) : (ch s pos = 46 ∧ Utf8.decode s pos = (46, 1)) ∨ ((Utf8.decode s pos).1 ≠ 46 ∧ 1 ≤ (Utf8.decode s pos).2 ∧ pos + (Utf8.decode s pos).2 ≤ s.size ∧ ∀ j, pos ≤ j → j < pos + (Utf8.decode s pos).2 → j < (chs s).length → (chs s).getD j 0 ≠ 46) := by
  have hc := ch_get s pos h
  obtain ⟨w1, w2, w3⟩ := dec_width s pos h
  by_cases ha : (s[pos]'h).toNat < 128
  · have hd := decode_ascii s pos h ha
    by_cases h46 : (s[pos]'h).toNat = 46
    · left
      rw [hd, hc, h46]; exact ⟨rfl, rfl⟩
    · right
      refine ⟨by rw [hd]; exact h46, w1, w2, fun j j1 j2 j3 => ?_⟩
      rw [hd] at j2
      obtain rfl : j = pos := by simp at j2; omega
      rw [chs_at, hc]; omega
  · right
    have hd := decode_high s pos h (by omega)
    refine ⟨by omega, w1, w2, fun j j1 j2 j3 => ?_⟩
    rw [chs_at]
    rcases Nat.eq_or_lt_of_le j1 with rfl | hlt
    · rw [hc]; omega
    · have := w3 j hlt j2
      have e := get_ch s j (by omega)
      omega
/-- A part of a text. -/
theorem extract_seg (s : ByteArray) (a b : Nat) : s.extract a b = strOfNums (seg (chs s) a b) := by
  apply ByteArray.ext
  apply Array.toList_inj.1
  have h1 := ByteArray.extract_mk s.data.toList a b
  have h2 : (ByteArray.mk s.data.toList.toArray) = s := by cases s; simp
  rw [h2] at h1
  rw [h1, strData]
  unfold seg chs
  rw [← List.map_drop, ← List.map_take, List.map_map]
  show (s.data.toList.drop a).take (b - a) = _
  conv => lhs; rw [← List.map_id ((s.data.toList.drop a).take (b - a))]
  apply List.map_congr_left
  intro b hb
  show b = UInt8.ofNat (((b.toNat : Nat) : Int)).toNat
  rw [Int.toNat_natCast]
  simp
end Go.Proofs.Ytfoecnlbiaiibaa.nam
