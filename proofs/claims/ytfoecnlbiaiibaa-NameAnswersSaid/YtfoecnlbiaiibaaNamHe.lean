/-
  Chapter 21 (name): is it a name, are the numbers in their bounds, by a walk of each text. Conditions: none but those typed.
-/
import Derived.Test.YtfoecnlbiaiibaaNamHd
namespace Go.Proofs.Ytfoecnlbiaiibaa.nam
set_option linter.unusedVariables false
set_option linter.unusedSimpArgs false
open Go.ChangeShapes Go.WideShapes Go.ChangeAt Go.RowKit Go.IntWalk Go.Lib
/-- P21.1: is it a name? -/
@[irreducible] def isNm (s : ByteArray) : Bool := decide (s.size ≤ 253 ∧ ∀ l ∈ labsOf (chs s), okL l)
theorem isNm_eq (s : ByteArray) : isNm s = decide (s.size ≤ 253 ∧ ∀ l ∈ labsOf (chs s), okL l) := by unfold isNm; rfl
theorem packs_isNm (s : ByteArray) : (packs (chs s)).2 = if isNm s = true then 0 else 9 := by
  rw [isNm_eq]
  by_cases h : s.size ≤ 253 ∧ ∀ l ∈ labsOf (chs s), okL l
  · rw [packs_ok (by rw [chs_len]; omega) h.2, decide_eq_true h]; rfl
  · rw [decide_eq_false h]
    unfold packs
    split
    · rfl
    · rename_i h9
      rw [chs_len] at h9
      rw [if_neg (fun e => h ⟨by omega, e⟩)]
      rfl
theorem isName1 (w : World) (s : ByteArray) (hs : s.size ≤ maxLen) : Calls Try.prog 35 #[.string s] w fun x w' => x = .returned (.bool (isNm s)) ∧ Only [] w w' := by
  have HL := hid (labelsD w s hs)
  rw [← isNm_eq] at HL
  obtain ⟨q, hq⟩ : ∃ q, isNm s = q := ⟨_, rfl⟩
  rw [hq] at HL ⊢
  clear hq
  go_enter Try.func35, Try.ntmps35
  go_wp2_with fail
  refine HL.out.mono ?_
  rintro x w1 ⟨v, rfl, o1, _⟩
  have Q1 := hid o1
  clear o1
  go_wp2_with fail
  go_ret
  exact ⟨rfl, Q1.out⟩
theorem isNumber1 (w : World) (x : Int) : Calls Try.prog 47 #[.int .i64 x] w fun y w' => y = .returned (.bool (decide (0 ≤ x ∧ x ≤ 65535))) ∧ w' = w := by
  by_cases h1 : x < 0
  · have hd : decide (0 ≤ x ∧ x ≤ 65535) = false := decide_eq_false (by omega)
    rw [hd]
    have h2 : decide ((0 : Int) ≤ x) = false := decide_eq_false (by omega)
    have h3 : ¬ (0 : Int) ≤ x := by omega
    go_enter Try.func47, Try.ntmps47
    go_wp2_with fail
    go_ret
    exact ⟨rfl, rfl⟩
  · have h3 : (0 : Int) ≤ x := by omega
    by_cases h2 : x ≤ 65535
    · have hd : decide (0 ≤ x ∧ x ≤ 65535) = true := decide_eq_true (by omega)
      rw [hd]
      go_enter Try.func47, Try.ntmps47
      go_wp2_with fail
      go_ret
      exact ⟨rfl, rfl⟩
    · have hd : decide (0 ≤ x ∧ x ≤ 65535) = false := decide_eq_false (by omega)
      rw [hd]
      go_enter Try.func47, Try.ntmps47
      go_wp2_with fail
      go_ret
      exact ⟨rfl, rfl⟩
end Go.Proofs.Ytfoecnlbiaiibaa.nam
