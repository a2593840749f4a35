/-
  Chapter 21 (name): a message's records as a row of cells. Conditions: none but those typed.
-/
import Derived.Test.YtfoecnlbiaiibaaNamHc
import Derived.Test.YtfoecnlbiaiibaaOplM
namespace Go.Proofs.Ytfoecnlbiaiibaa.nam
set_option linter.unusedVariables false
set_option linter.unusedSimpArgs false
open Go.ChangeShapes Go.WideShapes Go.ChangeAt Go.RowKit Go.IntWalk Go.Lib
/-- The cells of n records. -/
def mcs (V0 : Nat → ByteArray) (V1 V2 V3 : Nat → Int) (RA4 : Nat → Option Addr) (RN4 RC4 : Nat → Nat) : Nat → List Value
  | 0 => []
  | n + 1 => mcs V0 V1 V2 V3 RA4 RN4 RC4 n ++ [.string (V0 n), .int .i64 (V1 n), .int .i64 (V2 n), .int .i64 (V3 n), .slice (RA4 n) (RN4 n) (RC4 n)]
section
variable {V0 : Nat → ByteArray} {V1 V2 V3 : Nat → Int} {RA4 : Nat → Option Addr} {RN4 RC4 : Nat → Nat} {P4 : Nat → List Int}
theorem mcs_len (n : Nat) : (mcs V0 V1 V2 V3 RA4 RN4 RC4 n).length = n * 5 := by
  induction n with
  | zero => rfl
  | succ n ih => show (mcs V0 V1 V2 V3 RA4 RN4 RC4 n ++ _).length = _; rw [List.length_append, ih]; simp; omega
theorem mcs_one (n : Nat) : ∀ u ∈ mcs V0 V1 V2 V3 RA4 RN4 RC4 n, u.oneCell' = true := by
  induction n with
  | zero => intro u hu; cases hu
  | succ n ih =>
    intro u hu
    rcases List.mem_append.1 hu with h | h
    · exact ih u h
    · simp only [List.mem_cons, List.not_mem_nil, or_false] at h
      rcases h with rfl | rfl | rfl | rfl | rfl <;> rfl
theorem mcs_at {w : World} {b off : Nat} (n m : Nat) (hm : m ≤ n) (hc : ∀ i, i < n → w.cell? ⟨b, off + i * 5, none⟩ = some (.string (V0 i)) ∧ w.cell? ⟨b, off + i * 5 + 1, none⟩ = some (.int .i64 (V1 i)) ∧ w.cell? ⟨b, off + i * 5 + 2, none⟩ = some (.int .i64 (V2 i)) ∧ w.cell? ⟨b, off + i * 5 + 3, none⟩ = some (.int .i64 (V3 i)) ∧ w.cell? ⟨b, off + i * 5 + 4, none⟩ = some (.slice (RA4 i) (RN4 i) (RC4 i))) :
    ∀ j u, (mcs V0 V1 V2 V3 RA4 RN4 RC4 m)[j]? = some u → w.cell? ⟨b, off + j, none⟩ = some u := by
  induction m with
  | zero => intro j u h; cases h
  | succ m ih =>
    intro j u h
    have hl := mcs_len (V0 := V0) (V1 := V1) (V2 := V2) (V3 := V3) (RA4 := RA4) (RN4 := RN4) (RC4 := RC4) m
    rcases Nat.lt_or_ge j (m * 5) with hj | hj
    · refine ih (by omega) j u ?_
      rw [← h]
      exact (List.getElem?_append_left (by rw [hl]; exact hj)).symm
    · have h2 : ([.string (V0 m), .int .i64 (V1 m), .int .i64 (V2 m), .int .i64 (V3 m), .slice (RA4 m) (RN4 m) (RC4 m)] : List Value)[j - m * 5]? = some u := by
        rw [← h, ← hl]
        exact (List.getElem?_append_right (by rw [hl]; exact hj)).symm
      obtain ⟨c0, c1, c2, c3, c4⟩ := hc m (by omega)
      have hk : j - m * 5 < 5 := by
        rcases Nat.lt_or_ge (j - m * 5) 5 with h3 | h3
        · exact h3
        · rw [List.getElem?_eq_none (by simpa using h3)] at h2; cases h2
      obtain ⟨k, hk2⟩ : ∃ k, j - m * 5 = k := ⟨_, rfl⟩
      rw [hk2] at h2 hk
      obtain rfl : j = m * 5 + k := by omega
      rw [← Nat.add_assoc]
      have : k = 0 ∨ k = 1 ∨ k = 2 ∨ k = 3 ∨ k = 4 := by omega
      rcases this with rfl | rfl | rfl | rfl | rfl
      · rw [show u = .string (V0 m) from by simpa using h2.symm]; exact c0
      · rw [show u = .int .i64 (V1 m) from by simpa using h2.symm]; exact c1
      · rw [show u = .int .i64 (V2 m) from by simpa using h2.symm]; exact c2
      · rw [show u = .int .i64 (V3 m) from by simpa using h2.symm]; exact c3
      · rw [show u = .slice (RA4 m) (RN4 m) (RC4 m) from by simpa using h2.symm]; exact c4
theorem OplM.rdS {w : World} {A : Option Addr} {n : Nat} (h : OplM w A n V0 V1 V2 V3 RA4 RN4 RC4 P4) : RdS w A n 5 (mcs V0 V1 V2 V3 RA4 RN4 RC4 n) :=
  ⟨mcs_len n, mcs_one n, fun h0 => by
    obtain ⟨b, off, e, hb, hc⟩ := h.cells h0
    exact ⟨b, off, e, hb, mcs_at n n (Nat.le_refl _) (fun i hi => hc i hi)⟩⟩
end
end Go.Proofs.Ytfoecnlbiaiibaa.nam
