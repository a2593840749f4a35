/-
  A row that goes round its end: what is written behind its last byte, what is read out of it and what is dropped, on lists. Conditions: none but those typed.
-/
import Derived.Test.YtbjmckmajpdglaaByt
import Derived.Laws.CopyOwn
namespace Go.Proofs.Ytbjmckmajpdglaa.rng
set_option linter.unusedVariables false
set_option linter.unusedSimpArgs false
theorem getD_splice (L cs : List Int) (off i : Nat) (h : off + cs.length ≤ L.length) :
    (splice L off cs).getD i 0 = if off ≤ i ∧ i < off + cs.length then cs.getD (i - off) 0 else L.getD i 0 := by
  unfold splice
  have ht : (L.take off).length = off := by rw [List.length_take]; omega
  by_cases h1 : i < off
  · rw [if_neg (by omega)]
    have e1 : (L.take off ++ (cs ++ L.drop (off + cs.length)))[i]? = L[i]? := by
      rw [List.getElem?_append_left (by omega), List.getElem?_take, if_pos h1]
    simp [List.getD_eq_getElem?_getD, e1]
  · by_cases h2 : i < off + cs.length
    · rw [if_pos (by omega)]
      have e1 : (L.take off ++ (cs ++ L.drop (off + cs.length)))[i]? = cs[i - off]? := by
        rw [List.getElem?_append_right (by omega), ht, List.getElem?_append_left (by omega)]
      simp [List.getD_eq_getElem?_getD, e1]
    · rw [if_neg (by omega)]
      have e1 : (L.take off ++ (cs ++ L.drop (off + cs.length)))[i]? = L[i]? := by
        rw [List.getElem?_append_right (by omega), ht, List.getElem?_append_right (by omega), List.getElem?_drop]
        congr 1; omega
      simp [List.getD_eq_getElem?_getD, e1]
theorem mod2 {a N : Nat} (h : a < 2 * N) : a % N = if a < N then a else a - N := by
  split
  · exact Nat.mod_eq_of_lt (by omega)
  · rw [Nat.mod_eq_sub_mod (by omega), Nat.mod_eq_of_lt (by omega)]
theorem getD_take (l : List Int) (n i : Nat) : (l.take n).getD i 0 = if i < n then l.getD i 0 else 0 := by
  simp only [List.getD_eq_getElem?_getD, List.getElem?_take]
  split <;> simp
theorem getD_drop (l : List Int) (n i : Nat) : (l.drop n).getD i 0 = l.getD (n + i) 0 := by
  simp [List.getD_eq_getElem?_getD, List.getElem?_drop]
theorem getD_app (l m : List Int) (i : Nat) : (l ++ m).getD i 0 = if i < l.length then l.getD i 0 else m.getD (i - l.length) 0 := by
  simp only [List.getD_eq_getElem?_getD]
  split
  · rw [List.getElem?_append_left (by assumption)]
  · rw [List.getElem?_append_right (by omega)]
theorem ext_getD {l m : List Int} (hl : l.length = m.length) (h : ∀ i, i < l.length → l.getD i 0 = m.getD i 0) : l = m := by
  apply List.ext_getElem hl
  intro i h1 h2
  have := h i h1
  simpa [List.getD_eq_getElem?_getD, h1, h2] using this
theorem splice_mem {L cs : List Int} {off : Nat} {Q : Int → Prop} (h : ∀ x ∈ L, Q x) (h' : ∀ x ∈ cs, Q x) : ∀ x ∈ splice L off cs, Q x := by
  intro x hx
  unfold splice at hx
  rcases List.mem_append.1 hx with h1 | h1
  · exact h x (List.mem_of_mem_take h1)
  · rcases List.mem_append.1 h1 with h2 | h2
    · exact h' x h2
    · exact h x (List.mem_of_mem_drop h2)
/-- The row z of N bytes holds l from place f on, round its end. -/
structure Rel (N f : Nat) (z l : List Int) : Prop where
  len : z.length = N
  first : f < N
  fits : l.length ≤ N
  at_ : ∀ j, j < l.length → z.getD ((f + j) % N) 0 = l.getD j 0
/-- Where the next byte comes. -/
def spot (N f c : Nat) : Nat := (f + c) % N
theorem Rel.write {N f : Nat} {z l p : List Int} (h : Rel N f z l) (n s d : Nat) (hn : n ≤ p.length) (hfit : n + l.length ≤ N) (hs : s = (f + l.length) % N) (hd : d = min n (N - s)) :
    Rel N f (splice (splice z s (p.take d)) 0 ((p.take n).drop d)) (l ++ p.take n) := by
  have hf := h.first
  have hN := h.len
  have hle := h.fits
  have hsN : s < N := by rw [hs]; exact Nat.mod_lt _ (by omega)
  have hs2 : s = if f + l.length < N then f + l.length else f + l.length - N := by rw [hs]; exact mod2 (by omega)
  have lt1 : (p.take d).length = d := by rw [List.length_take]; omega
  have lt2 : ((p.take n).drop d).length = n - d := by rw [List.length_drop, List.length_take]; omega
  have lt3 : (p.take n).length = n := by rw [List.length_take]; omega
  have l1 : (splice z s (p.take d)).length = N := by rw [length_splice _ _ _ (by omega), hN]
  refine ⟨by rw [length_splice _ _ _ (by omega), l1], hf, by rw [List.length_append, lt3]; omega, fun j hj => ?_⟩
  rw [List.length_append, lt3] at hj
  rw [getD_splice _ _ _ _ (by omega), getD_splice _ _ _ _ (by omega), getD_app, lt1, lt2]
  have hm : (f + j) % N = if f + j < N then f + j else f + j - N := mod2 (by omega)
  generalize hi : (f + j) % N = i at *
  by_cases hjl : j < l.length
  · rw [if_pos hjl]
    have e := h.at_ j hjl
    rw [hi] at e
    rw [if_neg (by split at hs2 <;> split at hm <;> omega), if_neg (by split at hs2 <;> split at hm <;> omega)]
    exact e
  · rw [if_neg hjl]
    by_cases hjd : j - l.length < d
    · have hi2 : i = s + (j - l.length) := by split at hs2 <;> split at hm <;> omega
      rw [if_neg (by split at hs2 <;> split at hm <;> omega), if_pos (by omega), getD_take, if_pos (by omega), getD_take, if_pos (by omega)]
      congr 1; omega
    · have hi2 : i = (j - l.length) - d := by split at hs2 <;> split at hm <;> omega
      rw [if_pos (by omega), getD_drop, getD_take, if_pos (by omega), getD_take, if_pos (by omega)]
      congr 1; omega
theorem Rel.peek {N f : Nat} {z l o : List Int} (h : Rel N f z l) (a k s d : Nat) (hk : k + a ≤ l.length) (hs : s = (f + a) % N) (hd : d = min k (N - s)) (ho : o.length = k) :
    splice (splice o 0 ((z.drop s).take d)) d (z.take (k - d)) = (l.drop a).take k := by
  have hf := h.first
  have hN := h.len
  have hle := h.fits
  have hsN : s < N := by rw [hs]; exact Nat.mod_lt _ (by omega)
  have hs2 : s = if f + a < N then f + a else f + a - N := by rw [hs]; exact mod2 (by omega)
  have lt1 : ((z.drop s).take d).length = d := by rw [List.length_take, List.length_drop]; omega
  have lt2 : (z.take (k - d)).length = k - d := by rw [List.length_take]; omega
  have l1 : (splice o 0 ((z.drop s).take d)).length = k := by rw [length_splice _ _ _ (by omega), ho]
  apply ext_getD
  · rw [length_splice _ _ _ (by omega), l1, List.length_take, List.length_drop]; omega
  · intro i hi
    rw [length_splice _ _ _ (by omega), l1] at hi
    rw [getD_splice _ _ _ _ (by omega), getD_splice _ _ _ _ (by omega), lt1, lt2, getD_take (l.drop a) k, if_pos (by omega : i < k), getD_drop l a]
    have e := h.at_ (a + i) (by omega)
    have hm : (f + (a + i)) % N = if f + (a + i) < N then f + (a + i) else f + (a + i) - N := mod2 (by omega)
    rw [← e]
    by_cases hid : i < d
    · rw [if_neg (by omega), if_pos (by omega), getD_take, if_pos (by omega), getD_drop]
      congr 1
      split at hs2 <;> split at hm <;> omega
    · rw [if_pos (by omega), getD_take, if_pos (by omega)]
      congr 1
      split at hs2 <;> split at hm <;> omega
theorem Rel.drop {N f : Nat} {z l : List Int} (h : Rel N f z l) (n : Nat) (hn : n ≤ l.length) : Rel N ((f + n) % N) z (l.drop n) := by
  have hf := h.first
  have hle := h.fits
  refine ⟨h.len, Nat.mod_lt _ (by omega), by rw [List.length_drop]; omega, fun j hj => ?_⟩
  rw [List.length_drop] at hj
  rw [getD_drop, ← h.at_ (n + j) (by omega), Nat.mod_add_mod, Nat.add_assoc]
end Go.Proofs.Ytbjmckmajpdglaa.rng
