/-
  Chapter 6 (ipv4): the document's reader of addresses, and the pieces between dots. Conditions: none but those typed.
-/
import Derived.Test.YtaoeflngdlgboaaDoorIpO
namespace Go.Proofs.YtaoeflngdlgboaaDoor.ip
set_option linter.unusedVariables false
set_option linter.unusedSimpArgs false
open Go.ChangeShapes Go.WideShapes Go.ChangeAt Go.RowKit Go.IntWalk Go.Lib
/-- A digit behind others: the number and how many they are; none: it is refused. -/
@[irreducible] def dstep (v : Int) (k : Nat) (x : Int) : Option (Int × Nat) := if x < 48 ∨ 57 < x ∨ (0 < k ∧ v = 0) then none else if 255 < v * 10 + x - 48 then none else some (v * 10 + x - 48, k + 1)
/-- What the document's reader says, a character behind another. -/
def rd4 : List UInt8 → Nat → Int → Nat → Int → Option Int
  | [], n, v, k, a => if k = 0 ∨ n = 4 then none else if n + 1 = 4 then some (a * 256 + v) else none
  | c :: r, n, v, k, a => if (c.toNat : Int) = 46 then (if k = 0 ∨ n = 4 then none else rd4 r (n + 1) 0 0 (a * 256 + v)) else match dstep v k (c.toNat : Int) with
    | none => none
    | some (v', k') => rd4 r n v' k' a
theorem rd4_nil (n : Nat) (v : Int) (k : Nat) (a : Int) : rd4 [] n v k a = if k = 0 ∨ n = 4 then none else if n + 1 = 4 then some (a * 256 + v) else none := rfl
theorem rd4_cons (c : UInt8) (r : List UInt8) (n : Nat) (v : Int) (k : Nat) (a : Int) : rd4 (c :: r) n v k a = if (c.toNat : Int) = 46 then (if k = 0 ∨ n = 4 then none else rd4 r (n + 1) 0 0 (a * 256 + v)) else match dstep v k (c.toNat : Int) with
    | none => none
    | some (v', k') => rd4 r n v' k' a := rfl
def run : List UInt8 → Int → Nat → Option (Int × Nat)
  | [], v, k => some (v, k)
  | c :: r, v, k => match dstep v k (c.toNat : Int) with
    | none => none
    | some (v', k') => run r v' k'
theorem run_cons (c : UInt8) (r : List UInt8) (v : Int) (k : Nat) : run (c :: r) v k = match dstep v k (c.toNat : Int) with
    | none => none
    | some (v', k') => run r v' k' := rfl
theorem ne46 {b : UInt8} (h : b ≠ 46) : ¬ (b.toNat : Int) = 46 := fun e => h (by
  apply UInt8.toNat_inj.1
  show b.toNat = 46
  omega)
theorem rd4_app : ∀ (x : List UInt8), (∀ b ∈ x, b ≠ 46) → ∀ rest n v k a, rd4 (x ++ rest) n v k a = match run x v k with
    | none => none
    | some (v', k') => rd4 rest n v' k' a
  | [], _, rest, n, v, k, a => rfl
  | c :: r, h, rest, n, v, k, a => by
    have hc := ne46 (h c (List.mem_cons_self ..))
    rw [List.cons_append, rd4_cons, if_neg hc, run_cons]
    cases dstep v k (c.toNat : Int) with
    | none => rfl
    | some q => exact rd4_app r (fun b hb => h b (List.mem_cons_of_mem _ hb)) rest n q.1 q.2 a
theorem rd4_full : ∀ (l : List UInt8) (v : Int) (k : Nat) (a : Int), rd4 l 4 v k a = none
  | [], v, k, a => by rw [rd4_nil, if_pos (Or.inr rfl)]
  | c :: r, v, k, a => by
    rw [rd4_cons]
    split
    · rw [if_pos (Or.inr rfl)]
    · cases dstep v k (c.toNat : Int) with
      | none => rfl
      | some q => exact rd4_full r q.1 q.2 a
theorem tn (c : UInt8) : 0 ≤ (c.toNat : Int) ∧ (c.toNat : Int) ≤ 255 := by have := c.toNat_lt; omega
theorem dstep_no {v x : Int} {k : Nat} (h : x < 48 ∨ 57 < x ∨ (0 < k ∧ v = 0) ∨ 255 < v * 10 + x - 48) : dstep v k x = none := by
  unfold dstep
  by_cases h1 : x < 48 ∨ 57 < x ∨ (0 < k ∧ v = 0)
  · rw [if_pos h1]
  · rw [if_neg h1, if_pos (by rcases h with h | h | h | h <;> first | exact h | (exfalso; apply h1; simp [h]))]
theorem dstep_yes {v x : Int} {k : Nat} (h : 48 ≤ x ∧ x ≤ 57) (h2 : ¬ (0 < k ∧ v = 0)) (h3 : v * 10 + x - 48 ≤ 255) : dstep v k x = some (v * 10 + x - 48, k + 1) := by
  unfold dstep
  rw [if_neg (by rintro (h1 | h1 | h1) <;> first | omega | exact h2 h1), if_neg (by omega)]
theorem run_four (c0 c1 c2 c3 : UInt8) (t : List UInt8) : run (c0 :: c1 :: c2 :: c3 :: t) 0 0 = none := by
  rw [run_cons]
  simp only [run_cons]
  by_cases g0 : 48 ≤ (c0.toNat : Int) ∧ (c0.toNat : Int) ≤ 57
  · rw [dstep_yes g0 (by simp) (by omega)]
    by_cases g1 : (48 ≤ (c1.toNat : Int) ∧ (c1.toNat : Int) ≤ 57) ∧ ¬ (0 * 10 + (c0.toNat : Int) - 48) = 0
    · show (match dstep (0 * 10 + (c0.toNat : Int) - 48) 1 (c1.toNat : Int) with | none => none | some (v', k') => _) = none
      rw [dstep_yes g1.1 (fun h => g1.2 h.2) (by omega)]
      by_cases g2 : (48 ≤ (c2.toNat : Int) ∧ (c2.toNat : Int) ≤ 57) ∧ ((0 * 10 + (c0.toNat : Int) - 48) * 10 + (c1.toNat : Int) - 48) * 10 + (c2.toNat : Int) - 48 ≤ 255
      · show (match dstep ((0 * 10 + (c0.toNat : Int) - 48) * 10 + (c1.toNat : Int) - 48) 2 (c2.toNat : Int) with | none => none | some (v', k') => _) = none
        rw [dstep_yes g2.1 (by omega) g2.2]
        show (match dstep (((0 * 10 + (c0.toNat : Int) - 48) * 10 + (c1.toNat : Int) - 48) * 10 + (c2.toNat : Int) - 48) 3 (c3.toNat : Int) with | none => none | some (v', k') => _) = none
        rw [dstep_no (by omega)]
      · show (match dstep ((0 * 10 + (c0.toNat : Int) - 48) * 10 + (c1.toNat : Int) - 48) 2 (c2.toNat : Int) with | none => none | some (v', k') => _) = none
        rw [dstep_no (by omega)]
    · show (match dstep (0 * 10 + (c0.toNat : Int) - 48) 1 (c1.toNat : Int) with | none => none | some (v', k') => _) = none
      rw [dstep_no (by omega)]
  · rw [dstep_no (by omega)]
def Ok1 (x0 : Int) : Prop := 48 ≤ x0 ∧ x0 ≤ 57
theorem okN_nil : okN ⟨([] : List UInt8).toArray⟩ = false := by decide +kernel
theorem okN1 (c0 : UInt8) : (okN ⟨[c0].toArray⟩ = true ↔ Ok1 c0.toNat) ∧ dv ⟨[c0].toArray⟩ 1 = (c0.toNat : Int) - 48 := by
  have e0 : ch ⟨[c0].toArray⟩ 0 = (c0.toNat : Int) := rfl
  have ed : dv ⟨[c0].toArray⟩ 1 = (c0.toNat : Int) - 48 := by simp only [dv, e0]; omega
  refine ⟨?_, ed⟩
  unfold okN Ok1
  rw [decide_eq_true_iff]
  have es : (⟨[c0].toArray⟩ : ByteArray).size = 1 := rfl
  rw [es, ed, e0]
  constructor
  · rintro ⟨_, _, _, h, _⟩
    have h0 := h 0 (by omega); rw [e0] at h0; exact h0
  · intro h
    refine ⟨by omega, by omega, by omega, fun j hj => ?_, by omega⟩
    obtain rfl : j = 0 := by omega
    rw [e0]; exact h
theorem okN2 (c0 c1 : UInt8) : (okN ⟨[c0, c1].toArray⟩ = true ↔ (¬ (c0.toNat : Int) = 48 ∧ Ok1 c0.toNat ∧ Ok1 c1.toNat)) ∧ dv ⟨[c0, c1].toArray⟩ 2 = ((c0.toNat : Int) - 48) * 10 + ((c1.toNat : Int) - 48) := by
  have e0 : ch ⟨[c0, c1].toArray⟩ 0 = (c0.toNat : Int) := rfl
  have e1 : ch ⟨[c0, c1].toArray⟩ 1 = (c1.toNat : Int) := rfl
  have ed : dv ⟨[c0, c1].toArray⟩ 2 = ((c0.toNat : Int) - 48) * 10 + ((c1.toNat : Int) - 48) := by simp only [dv, e0, e1]; omega
  refine ⟨?_, ed⟩
  unfold okN Ok1
  rw [decide_eq_true_iff]
  have es : (⟨[c0, c1].toArray⟩ : ByteArray).size = 2 := rfl
  rw [es, ed, e0]
  constructor
  · rintro ⟨_, _, hz, h, _⟩
    have h0 := h 0 (by omega); rw [e0] at h0
    have h1 := h 1 (by omega); rw [e1] at h1
    exact ⟨by omega, h0, h1⟩
  · rintro ⟨hz, h0, h1⟩
    refine ⟨by omega, by omega, by omega, fun j hj => ?_, by omega⟩
    rcases (show j = 0 ∨ j = 1 by omega) with rfl | rfl
    · rw [e0]; exact h0
    · rw [e1]; exact h1
theorem okN3 (c0 c1 c2 : UInt8) : (okN ⟨[c0, c1, c2].toArray⟩ = true ↔ (¬ (c0.toNat : Int) = 48 ∧ Ok1 c0.toNat ∧ Ok1 c1.toNat ∧ Ok1 c2.toNat ∧ (((c0.toNat : Int) - 48) * 10 + ((c1.toNat : Int) - 48)) * 10 + ((c2.toNat : Int) - 48) ≤ 255)) ∧ dv ⟨[c0, c1, c2].toArray⟩ 3 = (((c0.toNat : Int) - 48) * 10 + ((c1.toNat : Int) - 48)) * 10 + ((c2.toNat : Int) - 48) := by
  have e0 : ch ⟨[c0, c1, c2].toArray⟩ 0 = (c0.toNat : Int) := rfl
  have e1 : ch ⟨[c0, c1, c2].toArray⟩ 1 = (c1.toNat : Int) := rfl
  have e2 : ch ⟨[c0, c1, c2].toArray⟩ 2 = (c2.toNat : Int) := rfl
  have ed : dv ⟨[c0, c1, c2].toArray⟩ 3 = (((c0.toNat : Int) - 48) * 10 + ((c1.toNat : Int) - 48)) * 10 + ((c2.toNat : Int) - 48) := by simp only [dv, e0, e1, e2]; omega
  refine ⟨?_, ed⟩
  unfold okN Ok1
  rw [decide_eq_true_iff]
  have es : (⟨[c0, c1, c2].toArray⟩ : ByteArray).size = 3 := rfl
  rw [es, ed, e0]
  constructor
  · rintro ⟨_, _, hz, h, hd⟩
    have h0 := h 0 (by omega); rw [e0] at h0
    have h1 := h 1 (by omega); rw [e1] at h1
    have h2 := h 2 (by omega); rw [e2] at h2
    exact ⟨by omega, h0, h1, h2, hd⟩
  · rintro ⟨hz, h0, h1, h2, hd⟩
    refine ⟨by omega, by omega, by omega, fun j hj => ?_, hd⟩
    rcases (show j = 0 ∨ j = 1 ∨ j = 2 by omega) with rfl | rfl | rfl
    · rw [e0]; exact h0
    · rw [e1]; exact h1
    · rw [e2]; exact h2
theorem okN4 (c0 c1 c2 c3 : UInt8) (t : List UInt8) : okN ⟨(c0 :: c1 :: c2 :: c3 :: t).toArray⟩ = false := by
  unfold okN
  apply decide_eq_false
  rintro ⟨_, h, _⟩
  have es : (⟨(c0 :: c1 :: c2 :: c3 :: t).toArray⟩ : ByteArray).size = t.length + 4 := rfl
  omega
theorem num_of {s : ByteArray} (h : okN s = true) : num s = dv s s.size := by unfold num; rw [if_pos h]
/-- The digits of one piece. -/
theorem run_ok (x : List UInt8) (hx : x ≠ []) : (okN ⟨x.toArray⟩ = true → run x 0 0 = some (num ⟨x.toArray⟩, x.length)) ∧ (okN ⟨x.toArray⟩ = false → run x 0 0 = none) := by
  rcases x with _ | ⟨c0, x⟩
  · exact absurd rfl hx
  · have t0 := tn c0
    rcases x with _ | ⟨c1, x⟩
    · have ho := okN1 c0
      have hr : run [c0] 0 0 = match dstep 0 0 (c0.toNat : Int) with | none => none | some (v', k') => some (v', k') := rfl
      constructor
      · intro h
        have h0 := ho.1.1 h; unfold Ok1 at h0
        rw [hr, dstep_yes h0 (by simp) (by omega), num_of h, show (⟨[c0].toArray⟩ : ByteArray).size = 1 from rfl, ho.2]
        show some (0 * 10 + (c0.toNat : Int) - 48, 1) = some ((c0.toNat : Int) - 48, 1)
        rw [show 0 * 10 + (c0.toNat : Int) - 48 = (c0.toNat : Int) - 48 from by omega]
      · intro h
        have h0 : ¬ Ok1 c0.toNat := fun h1 => by rw [ho.1.2 h1] at h; cases h
        unfold Ok1 at h0
        rw [hr, dstep_no (by omega)]
    · have t1 := tn c1
      rcases x with _ | ⟨c2, x⟩
      · have ho := okN2 c0 c1
        have hr : run [c0, c1] 0 0 = match dstep 0 0 (c0.toNat : Int) with | none => none | some (v', k') => (match dstep v' k' (c1.toNat : Int) with | none => none | some (v', k') => some (v', k')) := rfl
        constructor
        · intro h
          obtain ⟨hz, h0, h1⟩ := ho.1.1 h; unfold Ok1 at h0 h1
          rw [hr, dstep_yes h0 (by simp) (by omega)]
          show (match dstep (0 * 10 + (c0.toNat : Int) - 48) 1 (c1.toNat : Int) with | none => none | some (v', k') => some (v', k')) = _
          rw [dstep_yes h1 (by omega) (by omega), num_of h, show (⟨[c0, c1].toArray⟩ : ByteArray).size = 2 from rfl, ho.2]
          show some ((0 * 10 + (c0.toNat : Int) - 48) * 10 + (c1.toNat : Int) - 48, 2) = some (((c0.toNat : Int) - 48) * 10 + ((c1.toNat : Int) - 48), 2)
          rw [show (0 * 10 + (c0.toNat : Int) - 48) * 10 + (c1.toNat : Int) - 48 = ((c0.toNat : Int) - 48) * 10 + ((c1.toNat : Int) - 48) from by omega]
        · intro h
          have h9 : ¬ (¬ (c0.toNat : Int) = 48 ∧ Ok1 c0.toNat ∧ Ok1 c1.toNat) := fun h1 => by rw [ho.1.2 h1] at h; cases h
          unfold Ok1 at h9
          rw [hr]
          by_cases g0 : 48 ≤ (c0.toNat : Int) ∧ (c0.toNat : Int) ≤ 57
          · rw [dstep_yes g0 (by simp) (by omega)]
            show (match dstep (0 * 10 + (c0.toNat : Int) - 48) 1 (c1.toNat : Int) with | none => none | some (v', k') => some (v', k')) = _
            rw [dstep_no (by omega)]
          · rw [dstep_no (by omega)]
      · have t2 := tn c2
        rcases x with _ | ⟨c3, x⟩
        · have ho := okN3 c0 c1 c2
          have hr : run [c0, c1, c2] 0 0 = match dstep 0 0 (c0.toNat : Int) with | none => none | some (v', k') => (match dstep v' k' (c1.toNat : Int) with | none => none | some (v', k') => (match dstep v' k' (c2.toNat : Int) with | none => none | some (v', k') => some (v', k'))) := rfl
          constructor
          · intro h
            obtain ⟨hz, h0, h1, h2, hd⟩ := ho.1.1 h; unfold Ok1 at h0 h1 h2
            rw [hr, dstep_yes h0 (by simp) (by omega)]
            show (match dstep (0 * 10 + (c0.toNat : Int) - 48) 1 (c1.toNat : Int) with | none => none | some (v', k') => (match dstep v' k' (c2.toNat : Int) with | none => none | some (v', k') => some (v', k'))) = _
            rw [dstep_yes h1 (by omega) (by omega)]
            show (match dstep ((0 * 10 + (c0.toNat : Int) - 48) * 10 + (c1.toNat : Int) - 48) 2 (c2.toNat : Int) with | none => none | some (v', k') => some (v', k')) = _
            rw [dstep_yes h2 (by omega) (by omega), num_of h, show (⟨[c0, c1, c2].toArray⟩ : ByteArray).size = 3 from rfl, ho.2]
            show some (((0 * 10 + (c0.toNat : Int) - 48) * 10 + (c1.toNat : Int) - 48) * 10 + (c2.toNat : Int) - 48, 3) = some ((((c0.toNat : Int) - 48) * 10 + ((c1.toNat : Int) - 48)) * 10 + ((c2.toNat : Int) - 48), 3)
            rw [show ((0 * 10 + (c0.toNat : Int) - 48) * 10 + (c1.toNat : Int) - 48) * 10 + (c2.toNat : Int) - 48 = (((c0.toNat : Int) - 48) * 10 + ((c1.toNat : Int) - 48)) * 10 + ((c2.toNat : Int) - 48) from by omega]
          · intro h
            have h9 : ¬ (¬ (c0.toNat : Int) = 48 ∧ Ok1 c0.toNat ∧ Ok1 c1.toNat ∧ Ok1 c2.toNat ∧ (((c0.toNat : Int) - 48) * 10 + ((c1.toNat : Int) - 48)) * 10 + ((c2.toNat : Int) - 48) ≤ 255) := fun h1 => by rw [ho.1.2 h1] at h; cases h
            unfold Ok1 at h9
            rw [hr]
            by_cases g0 : 48 ≤ (c0.toNat : Int) ∧ (c0.toNat : Int) ≤ 57
            · rw [dstep_yes g0 (by simp) (by omega)]
              show (match dstep (0 * 10 + (c0.toNat : Int) - 48) 1 (c1.toNat : Int) with | none => none | some (v', k') => (match dstep v' k' (c2.toNat : Int) with | none => none | some (v', k') => some (v', k'))) = _
              by_cases g1 : (48 ≤ (c1.toNat : Int) ∧ (c1.toNat : Int) ≤ 57) ∧ ¬ (0 * 10 + (c0.toNat : Int) - 48) = 0
              · rw [dstep_yes g1.1 (by omega) (by omega)]
                show (match dstep ((0 * 10 + (c0.toNat : Int) - 48) * 10 + (c1.toNat : Int) - 48) 2 (c2.toNat : Int) with | none => none | some (v', k') => some (v', k')) = _
                rw [dstep_no (by omega)]
              · rw [dstep_no (by omega)]
            · rw [dstep_no (by omega)]
        · exact ⟨fun h => (by rw [okN4] at h; cases h), fun _ => run_four c0 c1 c2 c3 x⟩
theorem dot_or (l : List UInt8) : (∀ b ∈ l, b ≠ 46) ∨ ∃ x r, l = x ++ 46 :: r ∧ ∀ b ∈ x, b ≠ 46 := by
  induction l with
  | nil => exact .inl (by simp)
  | cons c l ih =>
    by_cases hc : c = 46
    · subst hc; exact .inr ⟨[], l, rfl, by simp⟩
    · rcases ih with h | ⟨x, r, rfl, h⟩
      · exact .inl (by simpa using ⟨hc, h⟩)
      · exact .inr ⟨c :: x, r, rfl, by simpa using ⟨hc, h⟩⟩
theorem rd4_split : ∀ (k : Nat) (l : List UInt8) (n : Nat) (a : Int), n + k = 4 → rd4 l n 0 0 a = (if (Lib.splitB ⟨#[46]⟩ 0 k ⟨l.toArray⟩).length = k ∧ (∀ p ∈ Lib.splitB ⟨#[46]⟩ 0 k ⟨l.toArray⟩, okN p = true) then some ((Lib.splitB ⟨#[46]⟩ 0 k ⟨l.toArray⟩).foldl (fun a p => a * 256 + num p) a) else none)
  | 0, l, n, a, h => by
    obtain rfl : n = 4 := by omega
    rw [rd4_full, Lib.splitB_zero, if_neg (by simp)]
  | k + 1, l, n, a, h => by
    have hn4 : ¬ n = 4 := by omega
    rcases dot_or l with hl | ⟨x, r, rfl, hx⟩
    · rw [split_end _ _ hl]
      have e1 := rd4_app l hl [] n 0 0 a
      rw [List.append_nil] at e1
      rw [e1]
      by_cases hl0 : l = []
      · subst hl0
        rw [if_neg (by rintro ⟨_, h2⟩; have := h2 _ (List.mem_singleton.2 rfl); rw [okN_nil] at this; cases this)]
        show rd4 [] n 0 0 a = none
        rw [rd4_nil, if_pos (Or.inl rfl)]
      · have hlen : ¬ l.length = 0 := fun h0 => hl0 (List.eq_nil_of_length_eq_zero h0)
        obtain ⟨h1, h2⟩ := run_ok l hl0
        cases ho : okN ⟨l.toArray⟩ with
        | true =>
          rw [h1 ho]
          show rd4 [] n (num ⟨l.toArray⟩) l.length a = _
          rw [rd4_nil, if_neg (by rintro (h3 | h3) <;> contradiction)]
          by_cases hk : n + 1 = 4
          · rw [if_pos hk, if_pos ⟨by simp; omega, fun p hp => by rw [List.mem_singleton.1 hp]; exact ho⟩]; rfl
          · rw [if_neg hk, if_neg (by rintro ⟨h3, _⟩; simp at h3; omega)]
        | false =>
          rw [h2 ho, if_neg (by rintro ⟨_, h3⟩; have := h3 _ (List.mem_singleton.2 rfl); rw [ho] at this; cases this)]
    · rw [split_dot _ _ _ hx, rd4_app x hx]
      by_cases hx0 : x = []
      · subst hx0
        rw [if_neg (by rintro ⟨_, h2⟩; have := h2 _ (List.mem_cons_self ..); rw [okN_nil] at this; cases this)]
        show rd4 (46 :: r) n 0 0 a = none
        rw [rd4_cons, if_pos (by decide), if_pos (Or.inl rfl)]
      · have hlen : ¬ x.length = 0 := fun h0 => hx0 (List.eq_nil_of_length_eq_zero h0)
        obtain ⟨h1, h2⟩ := run_ok x hx0
        cases ho : okN ⟨x.toArray⟩ with
        | true =>
          rw [h1 ho]
          show rd4 (46 :: r) n (num ⟨x.toArray⟩) x.length a = _
          rw [rd4_cons, if_pos (by decide), if_neg (by rintro (h3 | h3) <;> contradiction), rd4_split k r (n + 1) (a * 256 + num ⟨x.toArray⟩) (by omega)]
          by_cases hk : (Lib.splitB ⟨#[46]⟩ 0 k ⟨r.toArray⟩).length = k ∧ (∀ p ∈ Lib.splitB ⟨#[46]⟩ 0 k ⟨r.toArray⟩, okN p = true)
          · rw [if_pos hk, if_pos ⟨by simp [hk.1], fun p hp => by rcases List.mem_cons.1 hp with rfl | h3 <;> first | exact ho | exact hk.2 p h3⟩]; rfl
          · rw [if_neg hk, if_neg (by rintro ⟨h3, h4⟩; exact hk ⟨by simpa using h3, fun p hp => h4 p (List.mem_cons_of_mem _ hp)⟩)]
        | false =>
          rw [h2 ho, if_neg (by rintro ⟨_, h3⟩; have := h3 _ (List.mem_cons_self ..); rw [ho] at this; cases this)]
theorem split_enough : ∀ (k k' : Nat) (l : List UInt8), l.length ≤ k → l.length ≤ k' → Lib.splitB ⟨#[46]⟩ 0 k ⟨l.toArray⟩ = Lib.splitB ⟨#[46]⟩ 0 k' ⟨l.toArray⟩
  | 0, k', l, h, _ => by
    obtain rfl : l = [] := List.eq_nil_of_length_eq_zero (by omega)
    rw [split_end k' [] (by simp), Lib.splitB_zero]
  | k + 1, k', l, h, h' => by
    rcases dot_or l with hl | ⟨x, r, rfl, hx⟩
    · rw [split_end _ _ hl, split_end _ _ hl]
    · simp only [List.length_append, List.length_cons] at h h'
      obtain ⟨k'', rfl⟩ : ∃ q, k' = q + 1 := ⟨k' - 1, by omega⟩
      rw [split_dot _ _ _ hx, split_dot _ _ _ hx, split_enough k k'' r (by omega) (by omega)]
theorem cut4 (s : ByteArray) : cut s = Lib.splitB ⟨#[46]⟩ 0 4 ⟨s.data.toList.toArray⟩ := by
  have e : (⟨s.data.toList.toArray⟩ : ByteArray) = s := by simp
  unfold cut
  by_cases h : 4 ≤ s.size
  · rw [show min 5 (s.size + 1) - 1 = 4 from by omega, e]
  · have hl : s.data.toList.length = s.size := Array.length_toList
    rw [← split_enough (min 5 (s.size + 1) - 1) 4 s.data.toList (by omega) (by omega), e]
/-- The document's reader and the pieces between dots. -/
theorem rd4_prs (s : ByteArray) : (rd4 s.data.toList 0 0 0 0 = none → prsA (cut s) = 0 ∧ prsE (cut s) = 3) ∧ (∀ a, rd4 s.data.toList 0 0 0 0 = some a → prsA (cut s) = a ∧ prsE (cut s) = 0) := by
  have h := rd4_split 4 s.data.toList 0 0 rfl
  rw [← cut4] at h
  rw [h]
  generalize cut s = L
  by_cases hc : L.length = 4 ∧ (∀ p ∈ L, okN p = true)
  · rw [if_pos hc]
    refine ⟨fun h => (by cases h), fun a ha => ?_⟩
    injection ha with ha
    obtain ⟨h4, hp⟩ := hc
    obtain ⟨p0, p1, p2, p3, rfl⟩ : ∃ p0 p1 p2 p3, L = [p0, p1, p2, p3] := by
      rcases L with _ | ⟨p0, _ | ⟨p1, _ | ⟨p2, _ | ⟨p3, _ | ⟨p4, L⟩⟩⟩⟩⟩ <;> simp at h4
      exact ⟨_, _, _, _, rfl⟩
    have e : okP [p0, p1, p2, p3] = true := by
      unfold okP pt
      simp only [List.getD_cons_zero, List.getD_cons_succ, hp p0 (by simp), hp p1 (by simp), hp p2 (by simp), hp p3 (by simp)]
      rfl
    refine ⟨?_, by unfold prsE; rw [if_pos e]⟩
    unfold prsA
    rw [if_pos e, ← ha]
    rfl
  · rw [if_neg hc]
    refine ⟨fun _ => ?_, fun a ha => (by cases ha)⟩
    have e : okP L = false := by
      cases ho : okP L with
      | false => rfl
      | true =>
        exfalso; apply hc
        unfold okP at ho
        simp only [Bool.and_eq_true, decide_eq_true_eq] at ho
        obtain ⟨h4, q0, q1, q2, q3⟩ := ho
        obtain ⟨p0, p1, p2, p3, rfl⟩ : ∃ p0 p1 p2 p3, L = [p0, p1, p2, p3] := by
          rcases L with _ | ⟨p0, _ | ⟨p1, _ | ⟨p2, _ | ⟨p3, _ | ⟨p4, L⟩⟩⟩⟩⟩ <;> simp at h4
          exact ⟨_, _, _, _, rfl⟩
        refine ⟨h4, fun p hp => ?_⟩
        simp only [List.mem_cons, List.not_mem_nil, or_false] at hp
        rcases hp with rfl | rfl | rfl | rfl
        · exact q0
        · exact q1
        · exact q2
        · exact q3
    exact ⟨by unfold prsA; rw [e]; rfl, by unfold prsE; rw [e]; rfl⟩
end Go.Proofs.YtaoeflngdlgboaaDoor.ip
