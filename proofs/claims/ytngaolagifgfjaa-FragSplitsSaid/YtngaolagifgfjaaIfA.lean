/-
  Chapter 6 (ipv4): which options are well made. Conditions: none but those typed.
-/
import Derived.Test.YtngaolagifgfjaaRows
import Derived.Test.YtngaolagifgfjaaByt
import Derived.Test.YtngaolagifgfjaaBit
import Derived.Test.YtngaolagifgfjaaOwn
import Derived.Deep.QuietTactic
import Derived.BigQuiet
import Derived.Laws.EntriesVeiled
namespace Go.Proofs.Ytngaolagifgfjaa.ip
set_option linter.unusedVariables false
set_option linter.unusedSimpArgs false
open Go.ChangeShapes Go.WideShapes Go.ChangeAt Go.RowKit Go.IntWalk Go.Lib
/-- Options that follow one another as they should (true), or do not (false). -/
inductive Ofs : List Int → Bool → Prop
  | nil : Ofs [] true
  | endg (r : List Int) : (∀ z ∈ r, z = 0) → Ofs (0 :: r) true
  | endb (r : List Int) : ¬ (∀ z ∈ r, z = 0) → Ofs (0 :: r) false
  | one (r : List Int) (b : Bool) : Ofs r b → Ofs (1 :: r) b
  | short (k : Int) : k ≠ 0 → k ≠ 1 → Ofs [k] false
  | low (k n : Int) (r : List Int) : k ≠ 0 → k ≠ 1 → n < 2 → Ofs (k :: n :: r) false
  | over (k n : Int) (r : List Int) : k ≠ 0 → k ≠ 1 → 2 ≤ n → (r.length : Int) + 2 < n → Ofs (k :: n :: r) false
  | more (k n : Int) (r : List Int) (b : Bool) : k ≠ 0 → k ≠ 1 → 2 ≤ n → n ≤ (r.length : Int) + 2 → Ofs (r.drop (n.toNat - 2)) b → Ofs (k :: n :: r) b
def okF : Nat → List Int → Bool
  | 0, _ => true
  | _ + 1, [] => true
  | f + 1, k :: r => if k = 0 then r.all (fun z => decide (z = 0)) else if k = 1 then okF f r else
      match r with
      | [] => false
      | n :: q => if n < 2 then false else if (q.length : Int) + 2 < n then false else okF f (q.drop (n.toNat - 2))
def okO (l : List Int) : Bool := okF l.length l
theorem ofs_okF : ∀ (f : Nat) (l : List Int), l.length ≤ f → Ofs l (okF f l)
  | 0, l, h => by
    obtain rfl : l = [] := List.eq_nil_of_length_eq_zero (by omega)
    exact .nil
  | f + 1, [], h => .nil
  | f + 1, k :: r, h => by
    unfold okF
    by_cases h0 : k = 0
    · rw [if_pos h0]
      subst h0
      by_cases ha : ∀ z ∈ r, z = 0
      · rw [show r.all (fun z => decide (z = 0)) = true from by simpa using ha]
        exact .endg r ha
      · rw [show r.all (fun z => decide (z = 0)) = false from by simpa using ha]
        exact .endb r ha
    · rw [if_neg h0]
      by_cases h1 : k = 1
      · rw [if_pos h1]
        subst h1
        exact .one r _ (ofs_okF f r (by simp at h; omega))
      · rw [if_neg h1]
        rcases r with _ | ⟨n, q⟩
        · exact .short k h0 h1
        · show Ofs _ (if n < 2 then false else if (q.length : Int) + 2 < n then false else okF f (q.drop (n.toNat - 2)))
          by_cases h2 : n < 2
          · rw [if_pos h2]; exact .low k n q h0 h1 h2
          · rw [if_neg h2]
            by_cases h3 : (q.length : Int) + 2 < n
            · rw [if_pos h3]; exact .over k n q h0 h1 (by omega) h3
            · rw [if_neg h3]
              exact .more k n q _ h0 h1 (by omega) (by omega) (ofs_okF f _ (by simp at h ⊢; omega))
theorem ofs_okO (l : List Int) : Ofs l (okO l) := ofs_okF _ l (Nat.le_refl _)
theorem Ofs.eq {l : List Int} {b : Bool} (h : Ofs l b) : ∀ {c : Bool}, Ofs l c → b = c := by
  induction h with
  | nil => intro c h; cases h; rfl
  | endg r hr => intro c h; cases h <;> first | rfl | contradiction
  | endb r hr => intro c h; cases h <;> first | rfl | contradiction
  | one r b hr ih => intro c h; cases h <;> first | (exact ih ‹_›) | contradiction
  | short k h0 h1 => intro c h; cases h <;> first | rfl | contradiction
  | low k n r h0 h1 h2 => intro c h; cases h <;> first | rfl | contradiction | omega
  | over k n r h0 h1 h2 h3 => intro c h; cases h <;> first | rfl | contradiction | omega
  | more k n r b h0 h1 h2 h3 hr ih => intro c h; cases h <;> first | contradiction | omega | (exact ih ‹_›)
theorem okO_of {l : List Int} {b : Bool} (h : Ofs l b) : okO l = b := (ofs_okO l).eq h
/-- Noughts behind what is well made. -/
theorem Ofs.zeros {l : List Int} {b : Bool} (h : Ofs l b) : b = true → ∀ z : List Int, (∀ x ∈ z, x = 0) → Ofs (l ++ z) true := by
  induction h with
  | nil =>
    intro _ z hz
    rcases z with _ | ⟨x, z⟩
    · exact .nil
    · obtain rfl := hz x (by simp)
      exact .endg z (fun y hy => hz y (by simp [hy]))
  | endg r hr =>
    intro _ z hz
    exact .endg _ (fun y hy => by rcases List.mem_append.1 hy with h | h <;> first | exact hr y h | exact hz y h)
  | endb r hr => intro h; cases h
  | one r b hr ih => intro hb z hz; exact .one _ _ (ih hb z hz)
  | short k h0 h1 => intro h; cases h
  | low k n r h0 h1 h2 => intro h; cases h
  | over k n r h0 h1 h2 h3 => intro h; cases h
  | more k n r b h0 h1 h2 h3 hr ih =>
    intro hb z hz
    show Ofs (k :: n :: (r ++ z)) true
    refine .more k n _ _ h0 h1 h2 (by simp; omega) ?_
    rw [List.drop_append_of_le_length (by omega)]
    exact ih hb z hz
end Go.Proofs.Ytngaolagifgfjaa.ip
