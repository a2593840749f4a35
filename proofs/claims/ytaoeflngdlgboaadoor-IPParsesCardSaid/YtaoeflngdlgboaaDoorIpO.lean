/-
  Chapter 6 (ipv4): an address's text and back: what texts say, by their digits. Conditions: none but those typed.
-/
import Derived.Test.YtaoeflngdlgboaaDoorIpU
import Derived.Test.YtaoeflngdlgboaaDoorIpK
import Derived.Lib.IndexLaws
import Derived.Lib.Join
namespace Go.Proofs.YtaoeflngdlgboaaDoor.ip
set_option linter.unusedVariables false
set_option linter.unusedSimpArgs false
open Go.ChangeShapes Go.WideShapes Go.ChangeAt Go.RowKit Go.IntWalk Go.Lib
/-- A number's digits, three at most. -/
def d3 (n : Nat) : List UInt8 := if n < 10 then [UInt8.ofNat (48 + n)] else if n < 100 then [UInt8.ofNat (48 + n / 10), UInt8.ofNat (48 + n % 10)] else [UInt8.ofNat (48 + n / 100), UInt8.ofNat (48 + n / 10 % 10), UInt8.ofNat (48 + n % 10)]
theorem dec_d3 (n : Nat) (h : n < 1000) : Lib.decDigits n = d3 n := by
  unfold d3
  rw [Lib.decDigits]
  by_cases h1 : n < 10
  · rw [dif_pos h1, if_pos h1]
  · rw [dif_neg h1, if_neg h1, Lib.decDigits]
    by_cases h2 : n < 100
    · rw [dif_pos (by omega), if_pos h2]; rfl
    · rw [dif_neg (by omega), if_neg h2, Lib.decDigits, dif_pos (by omega), Nat.div_div_eq_div_mul]; rfl
theorem ia_d3 (n : Int) (h : 0 ≤ n ∧ n ≤ 255) : ia n = ⟨(d3 n.toNat).toArray⟩ := by
  unfold ia Lib.itoa
  rw [if_neg (by omega), dec_d3 _ (by omega)]
theorem d3_all : ∀ m : Fin 256, okN ⟨(d3 m.val).toArray⟩ = true ∧ num ⟨(d3 m.val).toArray⟩ = (m.val : Int) ∧ (∀ b ∈ d3 m.val, b ≠ 46) ∧ 1 ≤ (d3 m.val).length := by decide +kernel
theorem ia_ok (n : Int) (h : 0 ≤ n ∧ n ≤ 255) : okN (ia n) = true ∧ num (ia n) = n ∧ (∀ b ∈ (ia n).data.toList, b ≠ 46) ∧ 1 ≤ (ia n).data.toList.length := by
  obtain ⟨m, rfl⟩ := Int.eq_ofNat_of_zero_le h.1
  rw [ia_d3 _ h]
  have := d3_all ⟨m, by omega⟩
  simpa using this
theorem index_dotS : ∀ (x r : List UInt8), (∀ b ∈ x, b ≠ 46) → Lib.index (x ++ 46 :: r) [46] = x.length
  | [], r, _ => by simp [Lib.index]
  | b :: l, r, h => by
    have ih := index_dotS l r (fun c hc => h c (List.mem_cons_of_mem _ hc))
    have hb : b ≠ 46 := h b (List.mem_cons_self ..)
    have e : ([46] : List UInt8).isPrefixOf (b :: (l ++ 46 :: r)) = false := by simp [List.isPrefixOf]; exact fun h => hb h.symm
    rw [List.cons_append, Lib.index, e, ih]
    have e2 : (((l.length : Nat) : Int) == -1) = false := by rw [beq_eq_false_iff_ne]; omega
    simp [e2]
theorem index_noS : ∀ (x : List UInt8), (∀ b ∈ x, b ≠ 46) → Lib.index x [46] = -1
  | [], _ => by simp [Lib.index]
  | b :: l, h => by
    have ih := index_noS l (fun c hc => h c (List.mem_cons_of_mem _ hc))
    have hb : b ≠ 46 := h b (List.mem_cons_self ..)
    have e : ([46] : List UInt8).isPrefixOf (b :: l) = false := by simp [List.isPrefixOf]; exact fun h => hb h.symm
    rw [Lib.index, e, ih]; simp
theorem split_dot (k : Nat) (x r : List UInt8) (h : ∀ b ∈ x, b ≠ 46) : Lib.splitB ⟨#[46]⟩ 0 (k + 1) ⟨(x ++ 46 :: r).toArray⟩ = ⟨x.toArray⟩ :: Lib.splitB ⟨#[46]⟩ 0 k ⟨r.toArray⟩ := by
  rw [Lib.splitB_hit _ 0 k _ x.length (by unfold Lib.indexB; exact index_dotS x r h)]
  congr 1
  · apply ByteArray.ext
    apply Array.ext'
    rw [Lib.extract_data]
    simp
  · congr 1
    apply ByteArray.ext
    apply Array.ext'
    rw [Lib.extract_to_end]
    show (x ++ 46 :: r).drop (x.length + 1) = r
    simp
theorem split_end (k : Nat) (x : List UInt8) (h : ∀ b ∈ x, b ≠ 46) : Lib.splitB ⟨#[46]⟩ 0 k ⟨x.toArray⟩ = [⟨x.toArray⟩] :=
  Lib.splitB_miss _ 0 k _ (by unfold Lib.indexB; exact index_noS x h)
theorem txt_eq (a : Int) : txt a = ⟨((ia (a / 16777216 % 256)).data.toList ++ 46 :: ((ia (a / 65536 % 256)).data.toList ++ 46 :: ((ia (a / 256 % 256)).data.toList ++ 46 :: (ia (a % 256)).data.toList))).toArray⟩ := by
  unfold txt quad
  simp [Lib.join, List.intercalate]
theorem cut_txt (a : Int) : cut (txt a) = quad a := by
  obtain ⟨_, _, p1, l1⟩ := ia_ok (a / 16777216 % 256) (by omega)
  obtain ⟨_, _, p2, l2⟩ := ia_ok (a / 65536 % 256) (by omega)
  obtain ⟨_, _, p3, l3⟩ := ia_ok (a / 256 % 256) (by omega)
  obtain ⟨_, _, p4, l4⟩ := ia_ok (a % 256) (by omega)
  unfold cut
  have hs : 7 ≤ (txt a).size := by
    rw [txt_eq]
    show 7 ≤ (List.toArray _).size
    rw [List.size_toArray]
    simp only [List.length_append, List.length_cons]
    omega
  rw [show min 5 ((txt a).size + 1) - 1 = 3 + 1 from by omega, txt_eq, split_dot _ _ _ p1, split_dot _ _ _ p2, split_dot _ _ _ p3, split_end _ _ p4]
  rfl
theorem prs_txt (a : Int) (h : 0 ≤ a ∧ a ≤ 4294967295) : prsA (cut (txt a)) = a ∧ prsE (cut (txt a)) = 0 := by
  obtain ⟨q1, n1, _, _⟩ := ia_ok (a / 16777216 % 256) (by omega)
  obtain ⟨q2, n2, _, _⟩ := ia_ok (a / 65536 % 256) (by omega)
  obtain ⟨q3, n3, _, _⟩ := ia_ok (a / 256 % 256) (by omega)
  obtain ⟨q4, n4, _, _⟩ := ia_ok (a % 256) (by omega)
  rw [cut_txt]
  have e : okP (quad a) = true := by
    unfold okP quad pt
    simp only [List.length_cons, List.length_nil, List.getD_cons_zero, List.getD_cons_succ, q1, q2, q3, q4]
    rfl
  have ep : pf (quad a) 4 = a := by
    unfold quad
    simp only [pf, pt, List.getD_cons_zero, List.getD_cons_succ, n1, n2, n3, n4]
    omega
  exact ⟨by unfold prsA; rw [if_pos e, ep], by unfold prsE; rw [if_pos e]⟩
theorem txt_size (a : Int) : (txt a).size ≤ 15 := by
  have key : ∀ n : Int, 0 ≤ n ∧ n ≤ 255 → (ia n).data.toList.length ≤ 3 := fun n h => by
    rw [ia_d3 n h]
    show (d3 n.toNat).length ≤ 3
    unfold d3
    split
    · simp
    · split <;> simp
  have l1 := key (a / 16777216 % 256) (by omega)
  have l2 := key (a / 65536 % 256) (by omega)
  have l3 := key (a / 256 % 256) (by omega)
  have l4 := key (a % 256) (by omega)
  rw [txt_eq]
  show (List.toArray _).size ≤ 15
  rw [List.size_toArray]
  simp only [List.length_append, List.length_cons]
  omega
end Go.Proofs.YtaoeflngdlgboaaDoor.ip
