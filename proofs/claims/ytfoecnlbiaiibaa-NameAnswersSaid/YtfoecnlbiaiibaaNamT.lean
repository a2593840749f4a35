/-
  Chapter 21 (name): what a name at a place of bytes is read as. Conditions: none but those typed.
-/
import Derived.Test.YtfoecnlbiaiibaaNamS
namespace Go.Proofs.Ytfoecnlbiaiibaa.nam
set_option linter.unusedVariables false
set_option linter.unusedSimpArgs false
open Go.ChangeShapes Go.WideShapes Go.ChangeAt Go.RowKit Go.IntWalk Go.Lib
/-- Where a reference leads to. -/
def tgt (B : List Int) (i : Nat) : Nat := ((B.getD i 0 - 192) * 256 + B.getD (i + 1) 0).toNat
/-- The label at a place. -/
def lab (B : List Int) (i : Nat) : List Int := (B.drop (i + 1)).take (B.getD i 0).toNat
def dotted (out : List Int) : List Int := if out = [] then [] else out ++ [46]
/-- The text, the place behind, the error: of a name whose part began at p, read on at i. -/
def unpF (B : List Int) : Nat → Nat → Nat → Int → List Int → List Int × Int × Int
  | 0, _, _, _, _ => ([], 0, 0)
  | f + 1, p, i, bh, out =>
    if B.length ≤ i then ([], 0, 2)
    else if B.getD i 0 = 0 then (out, if bh < 0 then (i : Int) + 1 else bh, 0)
    else if 192 ≤ B.getD i 0 then
      if B.length ≤ i + 1 then ([], 0, 2)
      else if p ≤ tgt B i then ([], 0, 10)
      else unpF B f (tgt B i) (tgt B i) (if bh < 0 then (i : Int) + 2 else bh) out
    else if 63 < B.getD i 0 then ([], 0, 3)
    else if B.length < i + 1 + (B.getD i 0).toNat then ([], 0, 2)
    else if (46 : Int) ∈ lab B i then ([], 0, 9)
    else if 253 < (dotted out ++ lab B i).length then ([], 0, 9)
    else unpF B f p (i + 1 + (B.getD i 0).toNat) bh (dotted out ++ lab B i)
/-- The name at a place. -/
def unp (B : List Int) (at_ : Int) : List Int × Int × Int :=
  if at_ < 0 ∨ (B.length : Int) ≤ at_ then ([], 0, 2) else unpF B (B.length * (B.length + 2) + B.length + 1) at_.toNat at_.toNat (-1) []
theorem unp_in {B : List Int} {k : Nat} (h : k < B.length) : unp B (k : Int) = unpF B (B.length * (B.length + 2) + B.length + 1) k k (-1) [] := by
  unfold unp; rw [if_neg (by omega)]; rfl
section
variable {B : List Int} {f p i : Nat} {bh : Int} {out : List Int}
theorem u_end (h : B.length ≤ i) : unpF B (f + 1) p i bh out = ([], 0, 2) := by unfold unpF; rw [if_pos h]
theorem u_zero (h : i < B.length) (h0 : B.getD i 0 = 0) : unpF B (f + 1) p i bh out = (out, if bh < 0 then (i : Int) + 1 else bh, 0) := by unfold unpF; rw [if_neg (by omega), if_pos h0]
theorem u_jend (h : i < B.length) (h1 : 192 ≤ B.getD i 0) (h2 : B.length ≤ i + 1) : unpF B (f + 1) p i bh out = ([], 0, 2) := by unfold unpF; rw [if_neg (by omega), if_neg (by omega), if_pos h1, if_pos h2]
theorem u_jloop (h : i + 1 < B.length) (h1 : 192 ≤ B.getD i 0) (h2 : p ≤ tgt B i) : unpF B (f + 1) p i bh out = ([], 0, 10) := by unfold unpF; rw [if_neg (by omega), if_neg (by omega), if_pos h1, if_neg (by omega), if_pos h2]
theorem u_jump (h : i + 1 < B.length) (h1 : 192 ≤ B.getD i 0) (h2 : ¬ p ≤ tgt B i) : unpF B (f + 1) p i bh out = unpF B f (tgt B i) (tgt B i) (if bh < 0 then (i : Int) + 2 else bh) out := by conv => lhs; unfold unpF; rw [if_neg (by omega), if_neg (by omega), if_pos h1, if_neg (by omega), if_neg h2]
theorem u_form (h : i < B.length) (h1 : ¬ 192 ≤ B.getD i 0) (h2 : 63 < B.getD i 0) : unpF B (f + 1) p i bh out = ([], 0, 3) := by unfold unpF; rw [if_neg (by omega), if_neg (by omega), if_neg h1, if_pos h2]
theorem u_short (h : i < B.length) (h0 : B.getD i 0 ≠ 0) (h2 : ¬ 63 < B.getD i 0) (h3 : B.length < i + 1 + (B.getD i 0).toNat) : unpF B (f + 1) p i bh out = ([], 0, 2) := by unfold unpF; rw [if_neg (by omega), if_neg h0, if_neg (by omega), if_neg h2, if_pos h3]
theorem u_dot (h : i < B.length) (h0 : B.getD i 0 ≠ 0) (h2 : ¬ 63 < B.getD i 0) (h3 : ¬ B.length < i + 1 + (B.getD i 0).toNat) (h4 : (46 : Int) ∈ lab B i) : unpF B (f + 1) p i bh out = ([], 0, 9) := by unfold unpF; rw [if_neg (by omega), if_neg h0, if_neg (by omega), if_neg h2, if_neg h3, if_pos h4]
theorem u_long (h : i < B.length) (h0 : B.getD i 0 ≠ 0) (h2 : ¬ 63 < B.getD i 0) (h3 : ¬ B.length < i + 1 + (B.getD i 0).toNat) (h4 : (46 : Int) ∉ lab B i) (h5 : 253 < (dotted out ++ lab B i).length) : unpF B (f + 1) p i bh out = ([], 0, 9) := by unfold unpF; rw [if_neg (by omega), if_neg h0, if_neg (by omega), if_neg h2, if_neg h3, if_neg h4, if_pos h5]
theorem u_next (h : i < B.length) (h0 : B.getD i 0 ≠ 0) (h2 : ¬ 63 < B.getD i 0) (h3 : ¬ B.length < i + 1 + (B.getD i 0).toNat) (h4 : (46 : Int) ∉ lab B i) (h5 : ¬ 253 < (dotted out ++ lab B i).length) : unpF B (f + 1) p i bh out = unpF B f p (i + 1 + (B.getD i 0).toNat) bh (dotted out ++ lab B i) := by conv => lhs; unfold unpF; rw [if_neg (by omega), if_neg h0, if_neg (by omega), if_neg h2, if_neg h3, if_neg h4, if_neg h5]
end
/-- How far the reading may still go. -/
def meas (n p i : Nat) : Nat := p * (n + 2) + (n - i)
theorem meas_jump {n p i t : Nat} (h : t < p) : meas n t t < meas n p i := by
  unfold meas
  have := Nat.mul_le_mul_right (n + 2) (show t + 1 ≤ p from h)
  rw [Nat.add_mul, Nat.one_mul] at this
  omega
theorem meas_next {n p i j : Nat} (h : i < j) (hi : i < n) : meas n p j < meas n p i := by unfold meas; omega
theorem meas_top {n k : Nat} (h : k < n) : meas n k k < n * (n + 2) + n + 1 := by
  unfold meas
  have := Nat.mul_le_mul_right (n + 2) (Nat.le_of_lt h)
  omega
end Go.Proofs.Ytfoecnlbiaiibaa.nam
