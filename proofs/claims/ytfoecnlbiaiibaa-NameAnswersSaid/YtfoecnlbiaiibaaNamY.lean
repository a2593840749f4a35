/-
  Chapter 21 (name): a packed name is read as itself: plain mathematics. Conditions: none but those typed.
-/
import Derived.Test.YtfoecnlbiaiibaaNamX
namespace Go.Proofs.Ytfoecnlbiaiibaa.nam
set_option linter.unusedVariables false
set_option linter.unusedSimpArgs false
open Go.ChangeShapes Go.WideShapes Go.ChangeAt Go.RowKit Go.IntWalk Go.Lib
/-- Labels, put behind what was read. -/
def joinF : List Int → List (List Int) → List Int
  | out, [] => out
  | out, l :: r => joinF (dotted out ++ l) r
theorem joinF_len : ∀ (ls : List (List Int)) (out : List Int), out.length ≤ (joinF out ls).length
  | [], out => Nat.le_refl _
  | l :: r, out => by
    have h1 := joinF_len r (dotted out ++ l)
    have h2 : out.length ≤ (dotted out ++ l).length := by
      unfold dotted
      split
      · rename_i h; rw [h]; simp
      · simp
    exact Nat.le_trans h2 h1
theorem joinF_cut : ∀ (L cur out : List Int), (∀ l ∈ cutF cur L, okL l) → joinF out (cutF cur L) = dotted out ++ (cur ++ L)
  | [], cur, out, _ => by rw [cutF_nil]; show dotted out ++ cur = _; simp
  | x :: L, cur, out, h => by
    by_cases hx : x = 46
    · subst hx
      rw [cutF_dot] at h ⊢
      have hc : okL cur := h cur (by simp)
      show joinF (dotted out ++ cur) (cutF [] L) = _
      rw [joinF_cut L [] _ (fun l hl => h l (by simp [hl]))]
      have hne : dotted out ++ cur ≠ [] := by
        intro e
        have h2 := hc.1
        rw [(List.append_eq_nil_iff.1 e).2] at h2
        simp at h2
      rw [show dotted (dotted out ++ cur) = dotted out ++ cur ++ [46] from if_neg hne]
      simp
    · rw [cutF_not _ _ hx] at h ⊢
      rw [joinF_cut L _ _ h]
      simp
theorem joinF_labs (L : List Int) (h : ∀ l ∈ labsOf L, okL l) : joinF [] (labsOf L) = L := by
  by_cases h0 : L = []
  · subst h0; rw [labsOf_nil]; rfl
  · rw [labsOf_ne h0] at h ⊢
    rw [joinF_cut L [] [] h]
    rfl
theorem cutF_nodot : ∀ (L cur : List Int), (46 : Int) ∉ cur → ∀ m ∈ cutF cur L, (46 : Int) ∉ m
  | [], cur, h, m, hm => by
    rw [cutF_nil] at hm
    obtain rfl : m = cur := by simpa using hm
    exact h
  | x :: L, cur, h, m, hm => by
    by_cases hx : x = 46
    · subst hx
      rw [cutF_dot] at hm
      rcases List.mem_cons.1 hm with rfl | h2
      · exact h
      · exact cutF_nodot L [] (by simp) m h2
    · rw [cutF_not _ _ hx] at hm
      exact cutF_nodot L _ (by simp [h]; omega) m hm
theorem labs_nodot (L : List Int) : ∀ m ∈ labsOf L, (46 : Int) ∉ m := by
  by_cases h0 : L = []
  · subst h0; rw [labsOf_nil]; simp
  · rw [labsOf_ne h0]; exact cutF_nodot L [] (by simp)
/-- Labels that were packed are read. -/
theorem unp_labs : ∀ (ls : List (List Int)) (pre rest out : List Int) (f p : Nat) (bh : Int), (∀ l ∈ ls, okL l) → (∀ l ∈ ls, (46 : Int) ∉ l) → (joinF out ls).length ≤ 253 →
    unpF (pre ++ (pk ls ++ rest)) (f + ls.length) p pre.length bh out = unpF (pre ++ (pk ls ++ rest)) f p (pre.length + (pk ls).length) bh (joinF out ls)
  | [], pre, rest, out, f, p, bh, _, _, _ => rfl
  | l :: r, pre, rest, out, f, p, bh, ok, nd, hj => by
    have okl := ok l (by simp)
    have hB : pre ++ (pk (l :: r) ++ rest) = (pre ++ ((l.length : Int) :: l)) ++ (pk r ++ rest) := by
      show pre ++ (((l.length : Int) :: (l ++ pk r)) ++ rest) = _
      simp
    have hpl : (pre ++ ((l.length : Int) :: l)).length = pre.length + 1 + l.length := by simp; omega
    have hih := unp_labs r (pre ++ ((l.length : Int) :: l)) rest (dotted out ++ l) f p bh (fun m hm => ok m (by simp [hm])) (fun m hm => nd m (by simp [hm])) hj
    rw [← hB, hpl] at hih
    have hpk : (pk (l :: r)).length = 1 + l.length + (pk r).length := by
      show ((l.length : Int) :: (l ++ pk r)).length = _
      simp; omega
    have hlen : (pre ++ (pk (l :: r) ++ rest)).length = pre.length + (pk (l :: r)).length + rest.length := by simp; omega
    have hget : (pre ++ (pk (l :: r) ++ rest)).getD pre.length 0 = (l.length : Int) := by
      show (pre ++ (((l.length : Int) :: (l ++ pk r)) ++ rest)).getD pre.length 0 = _
      simp [List.getD_eq_getElem?_getD]
    have hlab : lab (pre ++ (pk (l :: r) ++ rest)) pre.length = l := by
      unfold lab
      rw [hget, hB]
      have : ((pre ++ ((l.length : Int) :: l)) ++ (pk r ++ rest)).drop (pre.length + 1) = l ++ (pk r ++ rest) := by
        rw [show (pre ++ ((l.length : Int) :: l)) ++ (pk r ++ rest) = (pre ++ [(l.length : Int)]) ++ (l ++ (pk r ++ rest)) from by simp]
        rw [List.drop_append_of_le_length (by simp), List.drop_eq_nil_of_le (by simp)]
        rfl
      rw [this]
      simp
    have hjl := joinF_len r (dotted out ++ l)
    have hj2 : (joinF (dotted out ++ l) r).length ≤ 253 := hj
    have h1 := okl.1
    have h2 := okl.2
    have hstep := u_next (B := pre ++ (pk (l :: r) ++ rest)) (f := f + r.length) (p := p) (i := pre.length) (bh := bh) (out := out) (by rw [hlen, hpk]; omega) (by rw [hget]; omega) (by rw [hget]; omega) (by rw [hget, hlen, hpk]; omega) (by rw [hlab]; exact nd l (by simp)) (by rw [hlab]; omega)
    rw [hlab, hget] at hstep
    show unpF _ (f + (r.length + 1)) p pre.length bh out = _
    rw [← Nat.add_assoc, hstep]
    show unpF _ (f + r.length) p (pre.length + 1 + l.length) bh (dotted out ++ l) = _
    rw [hih, hpk]
    congr 1
    omega
theorem pk_size (ls : List (List Int)) (h : ∀ l ∈ ls, okL l) : 2 * ls.length ≤ (pk ls).length := by
  induction ls with
  | nil => simp
  | cons l r ih =>
    have h1 := ih (fun x hx => h x (by simp [hx]))
    have h2 := (h l (by simp)).1
    show 2 * (r.length + 1) ≤ ((l.length : Int) :: (l ++ pk r)).length
    simp; omega
/-- What Pack writes is read as it. -/
theorem unp_packs (L : List Int) (h : ¬ 253 < L.length) (ok : ∀ l ∈ labsOf L, okL l) : unp (pk (labsOf L) ++ [0]) ((0 : Nat) : Int) = (L, ((pk (labsOf L)).length : Int) + 1, 0) := by
  have hj := joinF_labs L ok
  have hnd := labs_nodot L
  obtain ⟨ls, hls⟩ : ∃ ls, labsOf L = ls := ⟨_, rfl⟩
  rw [hls] at hj hnd ok ⊢
  rw [unp_in (by simp)]
  have hsz := pk_size ls ok
  obtain ⟨n, hn⟩ : ∃ n, (pk ls ++ [0]).length = n := ⟨_, rfl⟩
  have hn2 : n = (pk ls).length + 1 := by rw [← hn]; simp
  rw [hn]
  obtain ⟨f, hf⟩ : ∃ f, n * (n + 2) + n + 1 = (f + 1) + ls.length := ⟨n * (n + 2) + n - ls.length, by omega⟩
  rw [hf]
  have h1 := unp_labs ls [] [0] [] (f + 1) 0 (-1) ok hnd (by rw [hj]; omega)
  simp only [List.nil_append, List.length_nil, Nat.zero_add] at h1
  rw [h1, hj, u_zero (by rw [hn]; omega) (by simp [List.getD_eq_getElem?_getD])]
  rfl
theorem chs_back (s : ByteArray) : strOfNums (chs s) = s := by
  have h1 := extract_seg s 0 s.size
  have h2 : s.extract 0 s.size = s := by simp
  rw [h2] at h1
  have h3 : seg (chs s) 0 s.size = chs s := by
    unfold seg
    rw [← chs_len]
    simp
  rw [h3] at h1
  exact h1.symm
end Go.Proofs.Ytfoecnlbiaiibaa.nam
