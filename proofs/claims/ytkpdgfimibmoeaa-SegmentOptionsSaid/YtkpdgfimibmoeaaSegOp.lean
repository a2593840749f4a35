/-
  Chapter 14 (segment): what options tell. Conditions: none but those typed.
-/
import Derived.Test.YtkpdgfimibmoeaaRows
import Derived.Test.YtkpdgfimibmoeaaByt
import Derived.Test.YtkpdgfimibmoeaaBit
import Derived.Test.YtkpdgfimibmoeaaOwn
import Derived.Test.YtkpdgfimibmoeaaOrm
import Derived.Deep.QuietTactic
import Derived.BigQuiet
import Derived.Laws.EntriesVeiled
import Derived.WalkSpells
namespace Go.Proofs.Ytkpdgfimibmoeaa.seg
set_option linter.unusedVariables false
set_option linter.unusedSimpArgs false
open Go.ChangeShapes Go.WideShapes Go.ChangeAt Go.RowKit Go.IntWalk Go.Lib
/-- What options tell: MSS and Scale so far, what is left, what comes out (none: they are ill made). -/
inductive Rop : Int → Int → List Int → Option (Int × Int) → Prop
  | nil (m s : Int) : Rop m s [] (some (m, s))
  | endg (m s : Int) (r : List Int) : Rop m s (0 :: r) (some (m, s))
  | one (m s : Int) (r : List Int) (x : Option (Int × Int)) : Rop m s r x → Rop m s (1 :: r) x
  | short (m s k : Int) : k ≠ 0 → k ≠ 1 → Rop m s [k] none
  | low (m s k n : Int) (r : List Int) : k ≠ 0 → k ≠ 1 → n < 2 → Rop m s (k :: n :: r) none
  | over (m s k n : Int) (r : List Int) : k ≠ 0 → k ≠ 1 → 2 ≤ n → (r.length : Int) + 2 < n → Rop m s (k :: n :: r) none
  | mss (m s a b : Int) (r : List Int) (x : Option (Int × Int)) : Rop (a * 256 + b) s r x → Rop m s (2 :: 4 :: a :: b :: r) x
  | mssb (m s n : Int) (r : List Int) : 2 ≤ n → n ≤ (r.length : Int) + 2 → n ≠ 4 → Rop m s (2 :: n :: r) none
  | sc (m s v : Int) (r : List Int) (x : Option (Int × Int)) : Rop m (if 14 < v then 14 else v) r x → Rop m s (3 :: 3 :: v :: r) x
  | scb (m s n : Int) (r : List Int) : 2 ≤ n → n ≤ (r.length : Int) + 2 → n ≠ 3 → Rop m s (3 :: n :: r) none
  | more (m s k n : Int) (r : List Int) (x : Option (Int × Int)) : k ≠ 0 → k ≠ 1 → k ≠ 2 → k ≠ 3 → 2 ≤ n → n ≤ (r.length : Int) + 2 → Rop m s (r.drop (n.toNat - 2)) x → Rop m s (k :: n :: r) x
def ropF : Nat → Int → Int → List Int → Option (Int × Int)
  | 0, m, s, _ => some (m, s)
  | _ + 1, m, s, [] => some (m, s)
  | f + 1, m, s, k :: r => if k = 0 then some (m, s) else if k = 1 then ropF f m s r else
      match r with
      | [] => none
      | n :: q => if n < 2 then none else if (q.length : Int) + 2 < n then none else
        if k = 2 then (if n ≠ 4 then none else match q with
          | a :: b :: t => ropF f (a * 256 + b) s t
          | _ => none)
        else if k = 3 then (if n ≠ 3 then none else match q with
          | v :: t => ropF f m (if 14 < v then 14 else v) t
          | _ => none)
        else ropF f m s (q.drop (n.toNat - 2))
def ropO (l : List Int) : Option (Int × Int) := ropF l.length 0 (-1) l
theorem rop_ropF : ∀ (f : Nat) (m s : Int) (l : List Int), l.length ≤ f → Rop m s l (ropF f m s l)
  | 0, m, s, l, h => by
    obtain rfl : l = [] := List.eq_nil_of_length_eq_zero (by omega)
    exact .nil m s
  | f + 1, m, s, [], h => .nil m s
  | f + 1, m, s, k :: r, h => by
    unfold ropF
    by_cases h0 : k = 0
    · rw [if_pos h0]; subst h0; exact .endg m s r
    · rw [if_neg h0]
      by_cases h1 : k = 1
      · rw [if_pos h1]; subst h1; exact .one m s r _ (rop_ropF f m s r (by simp at h; omega))
      · rw [if_neg h1]
        rcases r with _ | ⟨n, q⟩
        · exact .short m s k h0 h1
        · simp only []
          by_cases h2 : n < 2
          · rw [if_pos h2]; exact .low m s k n q h0 h1 h2
          · rw [if_neg h2]
            by_cases h3 : (q.length : Int) + 2 < n
            · rw [if_pos h3]; exact .over m s k n q h0 h1 (by omega) h3
            · rw [if_neg h3]
              by_cases h4 : k = 2
              · rw [if_pos h4]
                subst h4
                by_cases h5 : n ≠ 4
                · rw [if_pos h5]; exact .mssb m s n q (by omega) (by omega) h5
                · rw [if_neg h5]
                  obtain rfl : n = 4 := by omega
                  rcases q with _ | ⟨a, _ | ⟨b, t⟩⟩
                  · simp at h3
                  · simp at h3
                  · exact .mss m s a b t _ (rop_ropF f _ s t (by simp at h; omega))
              · rw [if_neg h4]
                by_cases h5 : k = 3
                · rw [if_pos h5]
                  subst h5
                  by_cases h6 : n ≠ 3
                  · rw [if_pos h6]; exact .scb m s n q (by omega) (by omega) h6
                  · rw [if_neg h6]
                    obtain rfl : n = 3 := by omega
                    rcases q with _ | ⟨v, t⟩
                    · simp at h3
                    · exact .sc m s v t _ (rop_ropF f m _ t (by simp at h; omega))
                · rw [if_neg h5]
                  exact .more m s k n q _ h0 h1 h4 h5 (by omega) (by omega) (rop_ropF f m s _ (by simp at h ⊢; omega))
theorem rop_ropO (l : List Int) : Rop 0 (-1) l (ropO l) := rop_ropF _ 0 (-1) l (Nat.le_refl _)
theorem Rop.inv {m s : Int} {l : List Int} {x : Option (Int × Int)} (h : Rop m s l x) :
    (l = [] ∧ x = some (m, s)) ∨ (∃ r, l = 0 :: r ∧ x = some (m, s)) ∨ (∃ r, l = 1 :: r ∧ Rop m s r x) ∨ (∃ k, l = [k] ∧ k ≠ 0 ∧ k ≠ 1 ∧ x = none) ∨
    (∃ k n r, l = k :: n :: r ∧ k ≠ 0 ∧ k ≠ 1 ∧ n < 2 ∧ x = none) ∨ (∃ k n r, l = k :: n :: r ∧ k ≠ 0 ∧ k ≠ 1 ∧ 2 ≤ n ∧ (r.length : Int) + 2 < n ∧ x = none) ∨
    (∃ a b r, l = 2 :: 4 :: a :: b :: r ∧ Rop (a * 256 + b) s r x) ∨ (∃ n r, l = 2 :: n :: r ∧ 2 ≤ n ∧ n ≤ (r.length : Int) + 2 ∧ n ≠ 4 ∧ x = none) ∨
    (∃ v r, l = 3 :: 3 :: v :: r ∧ Rop m (if 14 < v then 14 else v) r x) ∨ (∃ n r, l = 3 :: n :: r ∧ 2 ≤ n ∧ n ≤ (r.length : Int) + 2 ∧ n ≠ 3 ∧ x = none) ∨
    (∃ k n r, l = k :: n :: r ∧ k ≠ 0 ∧ k ≠ 1 ∧ k ≠ 2 ∧ k ≠ 3 ∧ 2 ≤ n ∧ n ≤ (r.length : Int) + 2 ∧ Rop m s (r.drop (n.toNat - 2)) x) := by
  cases h with
  | nil => exact .inl ⟨rfl, rfl⟩
  | endg _ _ r => exact .inr (.inl ⟨r, rfl, rfl⟩)
  | one _ _ r x h => exact .inr (.inr (.inl ⟨r, rfl, h⟩))
  | short _ _ k h0 h1 => exact .inr (.inr (.inr (.inl ⟨k, rfl, h0, h1, rfl⟩)))
  | low _ _ k n r h0 h1 h2 => exact .inr (.inr (.inr (.inr (.inl ⟨k, n, r, rfl, h0, h1, h2, rfl⟩))))
  | over _ _ k n r h0 h1 h2 h3 => exact .inr (.inr (.inr (.inr (.inr (.inl ⟨k, n, r, rfl, h0, h1, h2, h3, rfl⟩)))))
  | mss _ _ a b r x h => exact .inr (.inr (.inr (.inr (.inr (.inr (.inl ⟨a, b, r, rfl, h⟩))))))
  | mssb _ _ n r h2 h3 h4 => exact .inr (.inr (.inr (.inr (.inr (.inr (.inr (.inl ⟨n, r, rfl, h2, h3, h4, rfl⟩)))))))
  | sc _ _ v r x h => exact .inr (.inr (.inr (.inr (.inr (.inr (.inr (.inr (.inl ⟨v, r, rfl, h⟩))))))))
  | scb _ _ n r h2 h3 h4 => exact .inr (.inr (.inr (.inr (.inr (.inr (.inr (.inr (.inr (.inl ⟨n, r, rfl, h2, h3, h4, rfl⟩)))))))))
  | more _ _ k n r x h0 h1 h4 h5 h2 h3 h => exact .inr (.inr (.inr (.inr (.inr (.inr (.inr (.inr (.inr (.inr ⟨k, n, r, rfl, h0, h1, h4, h5, h2, h3, h⟩)))))))))
theorem drop_cons {l : List Int} {k : Nat} {a : Int} {t : List Int} (h : l.drop k = a :: t) : k < l.length ∧ l.getD k 0 = a ∧ l.drop (k + 1) = t ∧ l.length = k + 1 + t.length := by
  have hk : k < l.length := by
    rcases Nat.lt_or_ge k l.length with h1 | h1
    · exact h1
    · rw [List.drop_of_length_le h1] at h; cases h
  have hl := congrArg List.length h
  simp at hl
  rw [List.drop_eq_getElem_cons hk] at h
  injection h with h1 h2
  refine ⟨hk, ?_, h2, by omega⟩
  simp [List.getD_eq_getElem?_getD, hk, h1]
/-- What comes back. -/
def rout (x : Option (Int × Int)) : Ending := match x with
  | some (m, s) => .returned (.tuple #[.int .i64 m, .int .i64 s, .bool true])
  | none => .returned (.tuple #[.int .i64 0, .int .i64 0, .bool false])
end Go.Proofs.Ytkpdgfimibmoeaa.seg
