/-
  Chapter 3 (wheel): timers as a plain list, the lists of its slots, and what a wheel and the document's wheel hold in memory. Conditions: none but those typed.
-/
import Derived.Test.YtnachendenodkaaSrw
import Derived.OwnWalk
namespace Go.Proofs.Ytnachendenodkaa.whl
set_option linter.unusedVariables false
set_option linter.unusedSimpArgs false
open Go.ChangeShapes Go.WideShapes Go.ChangeAt Go.RowKit Go.IntWalk Go.Lib
/-- A timer: its key and its tick. -/
structure Tm where
  k : Int
  a : Int
deriving DecidableEq, Inhabited
def Tm.cs (x : Tm) : List Value := [.int .i64 x.k, .int .i64 x.a]
def tcs : List Tm → List Value
  | [] => []
  | x :: r => x.cs ++ tcs r
theorem tcs_len : ∀ L : List Tm, (tcs L).length = L.length * 2
  | [] => rfl
  | x :: r => by simp [tcs, Tm.cs, tcs_len r]; omega
theorem tcs_app : ∀ L K : List Tm, tcs (L ++ K) = tcs L ++ tcs K
  | [], K => rfl
  | x :: r, K => by simp [tcs, tcs_app r K]
theorem tcs_one : ∀ L : List Tm, ∀ u ∈ tcs L, u.oneCell' = true
  | [], u, h => by simp [tcs] at h
  | x :: r, u, h => by
    simp only [tcs, List.mem_append] at h
    rcases h with h | h
    · simp [Tm.cs] at h; rcases h with rfl | rfl <;> rfl
    · exact tcs_one r u h
/-- The i-th timer. -/
def gt (L : List Tm) (i : Nat) : Tm := L.getD i ⟨0, 0⟩
theorem gt_at (L : List Tm) (i : Nat) (h : i < L.length) : gt L i = L[i] := by simp [gt, h]
theorem gt_mem (L : List Tm) (i : Nat) (h : i < L.length) : gt L i ∈ L := by rw [gt_at L i h]; exact List.getElem_mem h
theorem tcs_get : ∀ (L : List Tm) (i t : Nat), i < L.length → t < 2 → (tcs L)[i * 2 + t]? = ((gt L i).cs)[t]?
  | x :: r, 0, t, _, ht => by
    simp only [tcs, gt, List.getD_cons_zero, Nat.zero_mul, Nat.zero_add]
    rw [List.getElem?_append_left (by simp [Tm.cs]; omega)]
  | x :: r, i + 1, t, hi, ht => by
    simp only [tcs, gt, List.getD_cons_succ]
    rw [List.getElem?_append_right (by simp [Tm.cs]; omega)]
    have h := tcs_get r i t (by simpa using hi) ht
    simp only [gt] at h
    rw [← h]
    congr 1
    simp [Tm.cs]; omega
theorem tcs_erase : ∀ (L : List Tm) (k : Nat), k < L.length → tcs (L.eraseIdx k) = (tcs L).take (k * 2) ++ (tcs L).drop ((k + 1) * 2)
  | x :: r, 0, h => by simp [tcs, Tm.cs]
  | x :: r, k + 1, h => by
    have e := tcs_erase r k (by simpa using h)
    rw [show (k + 1) * 2 = 2 + k * 2 from by omega, show (k + 1 + 1) * 2 = 2 + (k + 1) * 2 from by omega]
    simp only [List.eraseIdx_cons_succ, tcs]
    rw [e]
    rw [List.take_append, List.drop_append, List.take_of_length_le (l := x.cs) (by simp [Tm.cs]), List.drop_of_length_le (l := x.cs) (by simp [Tm.cs] <;> omega)]
    simp [Tm.cs]
theorem tcs_take : ∀ (L : List Tm) (k : Nat), tcs (L.take k) = (tcs L).take (k * 2)
  | [], k => by simp [tcs]
  | x :: r, 0 => by simp [tcs]
  | x :: r, k + 1 => by
    rw [show (k + 1) * 2 = 2 + k * 2 from by omega]
    simp only [List.take_succ_cons, tcs, tcs_take r k]
    rw [List.take_append, List.take_of_length_le (l := x.cs) (by simp [Tm.cs])]
    simp [Tm.cs]
theorem tcs_drop : ∀ (L : List Tm) (k : Nat), tcs (L.drop k) = (tcs L).drop (k * 2)
  | [], k => by simp [tcs]
  | x :: r, 0 => by simp [tcs]
  | x :: r, k + 1 => by
    rw [show (k + 1) * 2 = 2 + k * 2 from by omega]
    simp only [List.drop_succ_cons, tcs, tcs_drop r k]
    rw [List.drop_append, List.drop_of_length_le (l := x.cs) (by simp [Tm.cs] <;> omega)]
    simp [Tm.cs]
/-- The timers of a slot. -/
def bk (L : List Tm) (s : Nat) : List Tm := L.filter fun t => t.a % 64 == (s : Int)
/-- Without a key's timer. -/
def rm (L : List Tm) (key : Int) : List Tm := L.filter fun t => !(t.k == key)
theorem bk_app (L K : List Tm) (s : Nat) : bk (L ++ K) s = bk L s ++ bk K s := by simp [bk]
theorem bk_one (t : Tm) (s : Nat) : bk [t] s = if t.a % 64 = (s : Int) then [t] else [] := by
  by_cases h : t.a % 64 = (s : Int) <;> simp [bk, h]
theorem bk_mem {L : List Tm} {s : Nat} {t : Tm} (h : t ∈ bk L s) : t ∈ L ∧ t.a % 64 = (s : Int) := by simpa [bk] using h
theorem mem_bk {L : List Tm} {t : Tm} (h : t ∈ L) : ∃ s, s < 64 ∧ t ∈ bk L s := ⟨(t.a % 64).toNat, by omega, by simp [bk, h]; omega⟩
def keys (L : List Tm) : List Int := L.map Tm.k
theorem rm_bk (L : List Tm) (key : Int) (s : Nat) : bk (rm L key) s = rm (bk L s) key := by
  simp only [bk, rm, List.filter_filter]; congr 1; funext t; exact Bool.and_comm _ _
theorem nodup_bk {L : List Tm} (h : (keys L).Nodup) (s : Nat) : (keys (bk L s)).Nodup := h.sublist (List.Sublist.map _ (List.filter_sublist))
theorem rm_none {L : List Tm} {key : Int} (h : ∀ t ∈ L, t.k ≠ key) : rm L key = L := by
  unfold rm; rw [List.filter_eq_self]; intro t ht; simpa using h t ht
theorem rm_at : ∀ (L : List Tm) (key : Int) (p : Nat), (keys L).Nodup → p < L.length → (gt L p).k = key → rm L key = L.eraseIdx p
  | x :: r, key, 0, hn, hp, hk => by
    simp only [gt, List.getD_cons_zero] at hk
    have hn2 : x.k ∉ keys r ∧ (keys r).Nodup := by simpa [keys] using hn
    have : rm r key = r := rm_none fun t ht e => hn2.1 (by rw [hk, ← e]; exact List.mem_map_of_mem ht)
    simp only [rm] at this ⊢
    simp [hk, this]
  | x :: r, key, p + 1, hn, hp, hk => by
    have hn2 : x.k ∉ keys r ∧ (keys r).Nodup := by simpa [keys] using hn
    have hk2 : (gt r p).k = key := by simpa [gt] using hk
    have ih := rm_at r key p hn2.2 (by simpa using hp) hk2
    have hx : x.k ≠ key := fun e => hn2.1 (by rw [e, ← hk2]; exact List.mem_map_of_mem (gt_mem r p (by simpa using hp)))
    simp only [rm] at ih ⊢
    simp [hx, ih]
theorem rm_nodup {L : List Tm} (h : (keys L).Nodup) (key : Int) : (keys (rm L key)).Nodup := h.sublist (List.Sublist.map _ (List.filter_sublist))
theorem rm_not {L : List Tm} {key : Int} {t : Tm} (h : t ∈ rm L key) : t ∈ L ∧ t.k ≠ key := by simpa [rm] using h
/-- Where the key's timer stands, a key there has but one. -/
theorem key_one {L : List Tm} (h : (keys L).Nodup) {t u : Tm} (ht : t ∈ L) (hu : u ∈ L) (e : t.k = u.k) : t = u := by
  induction L with
  | nil => cases ht
  | cons x r ih =>
    have hn2 : x.k ∉ keys r ∧ (keys r).Nodup := by simpa [keys] using h
    rcases List.mem_cons.1 ht with h1 | h1
    · rcases List.mem_cons.1 hu with h2 | h2
      · rw [h1, h2]
      · exact absurd (by rw [← h1, e]; exact List.mem_map_of_mem h2) hn2.1
    · rcases List.mem_cons.1 hu with h2 | h2
      · exact absurd (by rw [← h2, ← e]; exact List.mem_map_of_mem h1) hn2.1
      · exact ih hn2.2 h1 h2
theorem rm_len {L : List Tm} {key : Int} (h : (keys L).Nodup) {t : Tm} (ht : t ∈ L) (hk : t.k = key) : (rm L key).length + 1 = L.length := by
  obtain ⟨p, hp, rfl⟩ := List.mem_iff_getElem.1 ht
  rw [rm_at L key p h hp (by rw [gt_at L p hp]; exact hk), List.length_eraseIdx, if_pos hp]
  omega
/-- The lists of all slots, one behind another, are the list but for the order. -/
theorem slots_perm : ∀ (n : Nat) (L : List Tm), (∀ t ∈ L, t.a % 64 < (n : Int)) → ((List.range n).flatMap fun s => bk L s).Perm L
  | 0, L, h => by
    have : L = [] := by
      cases L with
      | nil => rfl
      | cons x r => exact absurd (h x (by simp)) (by omega)
    subst this; exact List.Perm.refl _
  | n + 1, L, h => by
    rw [List.range_succ, List.flatMap_append]
    have e : ((List.range n).flatMap fun s => bk L s) = ((List.range n).flatMap fun s => bk (L.filter fun t => decide (t.a % 64 < (n : Int))) s) := by
      rw [List.flatMap_def, List.flatMap_def]
      congr 1
      apply List.map_congr_left
      intro s hs
      have hs2 : s < n := by simpa using hs
      show bk L s = bk (L.filter _) s
      unfold bk
      rw [List.filter_filter]
      apply List.filter_congr
      intro t _
      by_cases h1 : t.a % 64 = (s : Int)
      · have h2 : decide (t.a % 64 < (n : Int)) = true := decide_eq_true (by omega)
        rw [h2, Bool.and_true]
      · have h2 : (t.a % 64 == (s : Int)) = false := by simpa using h1
        rw [h2, Bool.false_and]
    have ih := slots_perm n (L.filter fun t => decide (t.a % 64 < (n : Int))) (fun t ht => by simpa using (List.mem_filter.1 ht).2)
    rw [e]
    have e2 : (List.flatMap (fun s => bk L s) [n]) = L.filter fun t => !(decide (t.a % 64 < (n : Int))) := by
      simp only [List.flatMap_cons, List.flatMap_nil, List.append_nil, bk]
      apply List.filter_congr
      intro t ht
      have := h t ht
      by_cases h1 : t.a % 64 = (n : Int)
      · simp [h1]
      · have h2 : decide (t.a % 64 < (n : Int)) = true := decide_eq_true (by omega)
        have h3 : (t.a % 64 == (n : Int)) = false := by simpa using h1
        rw [h2, h3]; rfl
    rw [e2]
    exact (ih.append_right _).trans (List.filter_append_perm _ L)
/-- The order of ticks, and of one tick of keys. -/
def tle (x y : Tm) : Bool := decide (x.a < y.a ∨ x.a = y.a ∧ x.k ≤ y.k)
def tlt (x y : Tm) : Bool := decide (x.a < y.a ∨ x.a = y.a ∧ x.k < y.k)
def Srt (D : List Tm) : Prop := D.Pairwise fun x y => tlt x y = true
theorem tlt_iff (x y : Tm) : tlt x y = true ↔ (x.a < y.a ∨ x.a = y.a ∧ x.k < y.k) := by simp [tlt]
/-- A sorted list is told by what it holds. -/
theorem srt_unique : ∀ (D E : List Tm), Srt D → Srt E → D.Perm E → D = E
  | [], E, _, _, h => h.nil_eq
  | x :: D, E, hd, he, h => by
    cases E with
    | nil => exact absurd h.eq_nil (by simp)
    | cons y E =>
      have hd2 := List.pairwise_cons.1 hd
      have he2 := List.pairwise_cons.1 he
      have hxy : x = y := by
        have hx : x ∈ y :: E := h.subset (by simp)
        have hy : y ∈ x :: D := h.symm.subset (by simp)
        rcases List.mem_cons.1 hx with e | hx
        · exact e
        · rcases List.mem_cons.1 hy with e | hy
          · exact e.symm
          · have h1 := (tlt_iff _ _).1 (he2.1 x hx)
            have h2 := (tlt_iff _ _).1 (hd2.1 y hy)
            omega
      subst hxy
      rw [srt_unique D E hd2.2 he2.2 (List.Perm.cons_inv h)]
end Go.Proofs.Ytnachendenodkaa.whl
