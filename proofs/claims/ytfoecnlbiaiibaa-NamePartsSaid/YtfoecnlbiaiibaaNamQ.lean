/-
  Chapter 21 (name): a name whose end leads to another one is read as the whole: plain mathematics. Conditions: none but those typed.
-/
import Derived.Test.YtfoecnlbiaiibaaNamY
namespace Go.Proofs.Ytfoecnlbiaiibaa.nam
set_option linter.unusedVariables false
set_option linter.unusedSimpArgs false
open Go.ChangeShapes Go.WideShapes Go.ChangeAt Go.RowKit Go.IntWalk Go.Lib
theorem joinF_more (L out : List Int) (h0 : L ≠ []) (h : ∀ l ∈ labsOf L, okL l) : joinF out (labsOf L) = dotted out ++ L := by
  rw [labsOf_ne h0] at h ⊢
  rw [joinF_cut L [] out h]
  rfl
/-- A name whose end leads to another one's beginning is read as the whole. -/
theorem unp_parts (a b : List Int) (ha : a ≠ []) (hb : b ≠ []) (hl : a.length + b.length ≤ 200) (oka : ∀ l ∈ labsOf a, okL l) (okb : ∀ l ∈ labsOf b, okL l) :
    unp ((pk (labsOf a) ++ [0]) ++ (pk (labsOf b) ++ [192, 0])) (((pk (labsOf a) ++ [0]).length : Nat) : Int) = (b ++ [46] ++ a, (((pk (labsOf a) ++ [0]) ++ (pk (labsOf b) ++ [192, 0])).length : Int), 0) := by
  have ja := joinF_more a b ha oka
  have jb := joinF_labs b okb
  have hda : dotted b = b ++ [46] := if_neg hb
  have na := labs_nodot a
  have nb := labs_nodot b
  have sa := pk_size _ oka
  have sb := pk_size _ okb
  obtain ⟨la, h1⟩ : ∃ la, labsOf a = la := ⟨_, rfl⟩
  obtain ⟨lb, h2⟩ : ∃ lb, labsOf b = lb := ⟨_, rfl⟩
  rw [h1] at ja na sa oka ⊢
  rw [h2] at jb nb sb okb ⊢
  rw [hda] at ja
  clear h1 h2
  obtain ⟨X, hX⟩ : ∃ X, (pk la ++ [0]) ++ (pk lb ++ [192, 0]) = X := ⟨_, rfl⟩
  have hXn : X.length = (pk la).length + 1 + (pk lb).length + 2 := by rw [← hX]; simp; omega
  have hg0 : X.getD ((pk la).length + 1 + (pk lb).length) 0 = 192 := by
    rw [← hX, List.getD_eq_getElem?_getD, List.getElem?_append_right (by simp)]
    simp
  have hg1 : X.getD ((pk la).length + 1 + (pk lb).length + 1) 0 = 0 := by
    rw [← hX, List.getD_eq_getElem?_getD, List.getElem?_append_right (by simp; omega)]
    simp
    rw [List.getElem?_append_right (by omega)]
    rw [show (pk la).length + 1 + (pk lb).length - (pk la).length - (pk lb).length = 1 from by omega]
    rfl
  have hgz : X.getD (pk la).length 0 = 0 := by
    rw [← hX]
    simp [List.getD_eq_getElem?_getD]
  have htg : tgt X ((pk la).length + 1 + (pk lb).length) = 0 := by unfold tgt; rw [hg0, hg1]; rfl
  have hpl : (pk la ++ [0]).length = (pk la).length + 1 := by simp
  rw [hX, unp_in (by rw [hXn, hpl]; omega), hpl]
  obtain ⟨n, hn⟩ : ∃ n, X.length = n := ⟨_, rfl⟩
  have hjb : (joinF [] lb).length ≤ 253 := by rw [jb]; omega
  have hja : (joinF b la).length ≤ 253 := by rw [ja]; simp; omega
  obtain ⟨f, hf⟩ : ∃ f, n * (n + 2) + n + 1 = (((f + 1) + la.length) + 1) + lb.length := ⟨n * (n + 2) + n - la.length - lb.length - 1, by omega⟩
  rw [hn, hf]
  have s1 := unp_labs lb (pk la ++ [0]) [192, 0] [] (((f + 1) + la.length) + 1) ((pk la).length + 1) (-1) okb nb hjb
  rw [hX, hpl] at s1
  have s2 := unp_labs la [] ([0] ++ (pk lb ++ [192, 0])) b (f + 1) 0 (((pk la).length + 1 + (pk lb).length : Nat) + 2 : Int) oka na hja
  rw [show ([] : List Int) ++ (pk la ++ ([0] ++ (pk lb ++ [192, 0]))) = X from by rw [← hX]; simp] at s2
  simp only [List.length_nil, Nat.zero_add] at s2
  rw [s1, jb, u_jump (by rw [hXn]; omega) (by rw [hg0]; omega) (by rw [htg]; omega), htg, if_pos (by omega), s2, ja, u_zero (by rw [hXn]; omega) hgz, if_neg (by omega)]
  rw [← hn, hXn]
  simp
end Go.Proofs.Ytfoecnlbiaiibaa.nam
