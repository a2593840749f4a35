/-
  Chapter 8 (route): a tree of routes as data, and the order of all routes. Conditions: none but those typed.
-/
import Derived.Test.YtoidpakenocllaaInsR
import Derived.Test.YtoidpakenocllaaDelR
namespace Go.Proofs.Ytoidpakenocllaa.rou
set_option linter.unusedVariables false
set_option linter.unusedSimpArgs false
open Go.ChangeShapes Go.WideShapes Go.ChangeAt Go.RowKit Go.IntWalk Go.Lib
/-- A node's list, of which the routes are those of one net. -/
inductive Tr where
  | nil : Tr
  | nd (b : Nat) (v : Value) (L : List Rt) (l r : Tr) : Tr
/-- The highest bits of an address. -/
def pre (a : Int) (d : Nat) : Int := a / 2 ^ (32 - d)
/-- The bit at a place. -/
def bt (a : Int) (d : Nat) : Int := a / 2 ^ (31 - d) % 2
theorem pre_zero {a : Int} (h0 : 0 ≤ a) (h1 : a ≤ 4294967295) : pre a 0 = 0 := by
  unfold pre
  rw [show (2 : Int) ^ (32 - 0) = 4294967296 from rfl]; omega
theorem pre_full (a : Int) : pre a 32 = a := by unfold pre; simp
theorem pre_succ (a : Int) {d : Nat} (hd : d < 32) : pre a (d + 1) = 2 * pre a d + bt a d := by
  unfold pre bt
  have e1 : 32 - (d + 1) = 31 - d := by omega
  have e2 : 32 - d = (31 - d) + 1 := by omega
  rw [e1, e2, Int.pow_succ, ← Int.ediv_ediv_of_nonneg (Int.le_of_lt (Int.pow_pos (by omega)))]
  have h2 := Int.mul_ediv_add_emod (a / 2 ^ (31 - d)) 2
  omega
theorem bt_or (a : Int) (d : Nat) : bt a d = 0 ∨ bt a d = 1 := by
  unfold bt
  omega
theorem pre_half {a b : Int} {d : Nat} (hd : d < 32) (h : pre a (d + 1) = pre b (d + 1)) : pre a d = pre b d := by
  rw [pre_succ a hd, pre_succ b hd] at h
  rcases bt_or a d with h1 | h1 <;> rcases bt_or b d with h2 | h2 <;> rw [h1, h2] at h <;> omega
theorem pre_le {a b : Int} {d : Nat} : ∀ (k : Nat), d + k ≤ 32 → pre a (d + k) = pre b (d + k) → pre a d = pre b d
  | 0, _, h => h
  | k + 1, hk, h => pre_le k (by omega) (pre_half (d := d + k) (by omega) h)
theorem pre_mul (p : Int) (d : Nat) : pre (p * 2 ^ (32 - d)) d = p := by
  unfold pre
  exact Int.mul_ediv_cancel _ (Int.ne_of_gt (Int.pow_pos (by omega)))
/-- What a route in a table is like. -/
structure Rt.ok (x : Rt) : Prop where
  b0 : 0 ≤ x.bits
  b1 : x.bits ≤ 32
  m0 : 0 ≤ x.met
  nt : x.net = pre x.net x.bits.toNat * 2 ^ (32 - x.bits.toNat)
/-- It fits an address. -/
def Fts (x : Rt) (a : Int) : Prop := pre a x.bits.toNat = pre x.net x.bits.toNat
def Key (x y : Rt) : Prop := x.net = y.net ∧ x.bits = y.bits ∧ x.met = y.met
namespace Tr
def ptr : Tr → Value
  | .nil => .pointer none
  | .nd b _ _ _ _ => .pointer (some ⟨b, 0, none⟩)
def all : Tr → List Rt
  | .nil => []
  | .nd _ _ L l r => L ++ l.all ++ r.all
def bks : Tr → List Nat
  | .nil => []
  | .nd b v _ l r => b :: (v.ownBlock.toList ++ (l.bks ++ r.bks))
def wf : Tr → Nat → Int → Prop
  | .nil, _, _ => True
  | .nd _ _ L l r, d, p => d ≤ 32 ∧ Rise L ∧ (∀ x ∈ L, x.ok ∧ x.bits = (d : Int) ∧ pre x.net d = p) ∧ l.wf (d + 1) (2 * p) ∧ r.wf (d + 1) (2 * p + 1)
theorem all_ok : ∀ {t : Tr} {d : Nat} {p : Int}, t.wf d p → ∀ x ∈ t.all, x.ok ∧ (d : Int) ≤ x.bits ∧ pre x.net d = p
  | .nil, _, _, _, x, hx => by simp [all] at hx
  | .nd _ _ L l r, d, p, h, x, hx => by
    obtain ⟨hd, _, hL, hl, hr⟩ := h
    simp only [all, List.mem_append] at hx
    rcases hx with (hx | hx) | hx
    · obtain ⟨h1, h2, h3⟩ := hL x hx
      exact ⟨h1, by omega, h3⟩
    · obtain ⟨h1, h2, h3⟩ := all_ok hl x hx
      have hb := h1.b1
      rw [pre_succ _ (by omega)] at h3
      refine ⟨h1, by omega, ?_⟩
      rcases bt_or x.net d with h4 | h4 <;> omega
    · obtain ⟨h1, h2, h3⟩ := all_ok hr x hx
      have hb := h1.b1
      rw [pre_succ _ (by omega)] at h3
      refine ⟨h1, by omega, ?_⟩
      rcases bt_or x.net d with h4 | h4 <;> omega
/-- A node's own routes are those of as many bits. -/
theorem here {b : Nat} {v : Value} {L : List Rt} {l r : Tr} {d : Nat} {p : Int} (h : (Tr.nd b v L l r).wf d p) {x : Rt} (hx : x ∈ (Tr.nd b v L l r).all) (hb : x.bits = (d : Int)) : x ∈ L := by
  obtain ⟨hd, _, hL, hl, hr⟩ := h
  simp only [all, List.mem_append] at hx
  rcases hx with (hx | hx) | hx
  · exact hx
  · have := (all_ok hl x hx).2.1; omega
  · have := (all_ok hr x hx).2.1; omega
/-- The child on an address's way. -/
def kid (l r : Tr) (a : Int) (d : Nat) : Tr := if bt a d = 0 then l else r
theorem kid_wf {b : Nat} {v : Value} {L : List Rt} {l r : Tr} {d : Nat} (a : Int) (h : (Tr.nd b v L l r).wf d (pre a d)) (hd : d < 32) : (kid l r a d).wf (d + 1) (pre a (d + 1)) := by
  obtain ⟨_, _, _, hl, hr⟩ := h
  rw [pre_succ _ hd]
  unfold kid
  rcases bt_or a d with h4 | h4
  · rw [if_pos h4, h4, Int.add_zero]; exact hl
  · rw [if_neg (by omega), h4]; exact hr
/-- What lies further down an address's way lies in the child there. -/
theorem down {b : Nat} {v : Value} {L : List Rt} {l r : Tr} {d : Nat} {a : Int} (h : (Tr.nd b v L l r).wf d (pre a d)) {x : Rt} (hx : x ∈ (Tr.nd b v L l r).all) (hb : (d : Int) < x.bits) (hp : pre x.net (d + 1) = pre a (d + 1)) : x ∈ (kid l r a d).all := by
  obtain ⟨hd, _, hL, hl, hr⟩ := h
  simp only [all, List.mem_append] at hx
  rcases hx with (hx | hx) | hx
  · have := (hL x hx).2.1; omega
  · obtain ⟨h1, h2, h3⟩ := all_ok hl x hx
    have h9 := h1.b1
    rw [h3, pre_succ _ (by omega)] at hp
    unfold kid
    rcases bt_or a d with h4 | h4
    · rw [if_pos h4]; exact hx
    · omega
  · obtain ⟨h1, h2, h3⟩ := all_ok hr x hx
    have h9 := h1.b1
    rw [h3, pre_succ _ (by omega)] at hp
    unfold kid
    rcases bt_or a d with h4 | h4
    · omega
    · rw [if_neg (by omega)]; exact hx
theorem kid_sub {b : Nat} {v : Value} {L : List Rt} {l r : Tr} {a : Int} {d : Nat} {x : Rt} (hx : x ∈ (kid l r a d).all) : x ∈ (Tr.nd b v L l r).all := by
  simp only [all, List.mem_append]
  unfold kid at hx
  split at hx
  · exact .inl (.inr hx)
  · exact .inr hx
end Tr
/-- The order of all. -/
def Ahd (a b : Rt) : Prop := a.bits > b.bits ∨ a.bits = b.bits ∧ (a.net < b.net ∨ a.net = b.net ∧ a.met < b.met)
def Srt (D : List Rt) : Prop := D.Pairwise Ahd
theorem Ahd.asym {a b : Rt} (h : Ahd a b) (k : Ahd b a) : False := by unfold Ahd at *; omega
theorem Ahd.trans {a b c : Rt} (h : Ahd a b) (k : Ahd b c) : Ahd a c := by unfold Ahd at *; omega
theorem ahd_tri (a b : Rt) : Ahd a b ∨ Ahd b a ∨ Key a b := by unfold Ahd Key; omega
theorem Ahd.ne {a b : Rt} (h : Ahd a b) : ¬ Key a b := by unfold Ahd Key at *; omega
theorem srt_unique : ∀ (D E : List Rt), Srt D → Srt E → D.Perm E → D = E
  | [], E, _, _, h => h.nil_eq
  | x :: D, E, hd, he, h => by
    cases E with
    | nil => exact absurd h.eq_nil (by simp)
    | cons y E =>
      have hd2 := List.pairwise_cons.1 hd
      have he2 := List.pairwise_cons.1 he
      have hxy : x = y := by
        have hx : x ∈ y :: E := h.subset (by simp)
        have hy : y ∈ x :: D := h.symm.subset (by simp)
        rcases List.mem_cons.1 hx with e | hx
        · exact e
        · rcases List.mem_cons.1 hy with e | hy
          · exact e.symm
          · exact (Ahd.asym (hd2.1 y hy) (he2.1 x hx)).elim
      subst hxy
      rw [srt_unique D E hd2.2 he2.2 (List.Perm.cons_inv h)]
/-- No two of one key. -/
def Apt (D : List Rt) : Prop := D.Pairwise fun a b => ¬ Key a b
theorem Key.symm {a b : Rt} (h : Key a b) : Key b a := ⟨h.1.symm, h.2.1.symm, h.2.2.symm⟩
theorem Apt.perm {D E : List Rt} (h : Apt D) (k : D.Perm E) : Apt E := (k.pairwise_iff (fun h e => h e.symm)).1 h
theorem Srt.apt {D : List Rt} (h : Srt D) : Apt D := List.Pairwise.imp (fun h => h.ne) h
/-- Sorted but for keys that are alike, and no keys alike: sorted. -/
theorem srt_of {D : List Rt} (h : D.Pairwise fun a b => ¬ Ahd b a) (k : Apt D) : Srt D := by
  refine List.Pairwise.imp ?_ (h.and k)
  intro a b hab
  rcases ahd_tri a b with h1 | h1 | h1
  · exact h1
  · exact absurd h1 hab.1
  · exact absurd h1 hab.2
theorem Apt.one {D : List Rt} (h : Apt D) {x y : Rt} (hx : x ∈ D) (hy : y ∈ D) (e : Key x y) : x = y := by
  induction D with
  | nil => cases hx
  | cons z r ih =>
    have h2 := List.pairwise_cons.1 h
    rcases List.mem_cons.1 hx with h1 | h1
    · rcases List.mem_cons.1 hy with h3 | h3
      · rw [h1, h3]
      · exact absurd (h1 ▸ e) (h2.1 y h3)
    · rcases List.mem_cons.1 hy with h3 | h3
      · exact absurd (h3 ▸ e.symm) (h2.1 x h1)
      · exact ih h2.2 h1 h3
/-- What a search in a node's list says. -/
theorem has_iff {L : List Rt} (hL : Rise L) (t : Int) : has L t = true ↔ ∃ x ∈ L, x.met = t := by
  constructor
  · intro h
    unfold has at h
    split at h
    · next a ha => exact ⟨a, List.mem_of_getElem? ha, by simpa using h⟩
    · cases h
  · rintro ⟨x, hx, rfl⟩
    obtain ⟨i, hi, rfl⟩ := List.getElem_of_mem hx
    have hs : spot L (L[i]).met = i := spot_eq L _ i (by omega) (fun k hk hki => hL.lt hi hki) (fun k hk hki => by
      rcases Nat.lt_or_ge i k with h3 | h3
      · exact Int.le_of_lt (hL.lt hk h3)
      · have : k = i := by omega
        subst this; exact Int.le_refl _)
    unfold has
    rw [hs, List.getElem?_eq_getElem hi]
    simp
theorem spot_le (L : List Rt) (t : Int) : spot L t ≤ L.length := List.countP_le_length
theorem spot_split {L : List Rt} (hL : Rise L) (t : Int) : (∀ x ∈ L.take (spot L t), x.met < t) ∧ (∀ x ∈ L.drop (spot L t), t ≤ x.met) := by
  induction L with
  | nil => simp
  | cons a r ih =>
    have h2 := List.pairwise_cons.1 hL
    obtain ⟨i1, i2⟩ := ih h2.2
    by_cases h : a.met < t
    · have e : spot (a :: r) t = spot r t + 1 := by unfold spot; rw [List.countP_cons_of_pos (by simpa using h)]
      rw [e, List.take_succ_cons, List.drop_succ_cons]
      refine ⟨fun x hx => ?_, i2⟩
      rcases List.mem_cons.1 hx with rfl | hx
      · exact h
      · exact i1 x hx
    · have e : spot (a :: r) t = 0 := by
        unfold spot
        rw [List.countP_eq_zero]
        intro x hx
        rcases List.mem_cons.1 hx with rfl | hx
        · simpa using h
        · have := h2.1 x hx
          simp; omega
      rw [e]
      refine ⟨by simp, fun x hx => ?_⟩
      rcases List.mem_cons.1 (by simpa using hx) with rfl | hx
      · omega
      · have := h2.1 x hx; omega
theorem rise_ins {L : List Rt} (hL : Rise L) (x : Rt) (hn : ∀ y ∈ L, y.met ≠ x.met) : Rise (insL L (spot L x.met) x) := by
  obtain ⟨h1, h2⟩ := spot_split hL x.met
  have hL2 : (L.take (spot L x.met) ++ L.drop (spot L x.met)).Pairwise fun a b => a.met < b.met := by rw [List.take_append_drop]; exact hL
  obtain ⟨p1, p2, p3⟩ := List.pairwise_append.1 hL2
  unfold insL
  refine List.pairwise_append.2 ⟨p1, List.pairwise_cons.2 ⟨fun y hy => ?_, p2⟩, fun y hy z hz => ?_⟩
  · have := h2 y hy
    have := hn y (List.mem_of_mem_drop hy)
    omega
  · rcases List.mem_cons.1 hz with rfl | hz
    · exact h1 y hy
    · exact p3 y hy z hz
theorem ins_perm {α : Type} (L : List α) (i : Nat) (x : α) : (insL L i x).Perm (x :: L) := by
  unfold insL
  refine List.perm_middle.trans ?_
  rw [List.take_append_drop]
theorem spot_at {L : List Rt} (hL : Rise L) {x : Rt} (hx : x ∈ L) : ∃ h : spot L x.met < L.length, L[spot L x.met] = x := by
  obtain ⟨i, hi, rfl⟩ := List.getElem_of_mem hx
  have hs : spot L (L[i]).met = i := spot_eq L _ i (by omega) (fun k hk hki => hL.lt hi hki) (fun k hk hki => by
    rcases Nat.lt_or_ge i k with h3 | h3
    · exact Int.le_of_lt (hL.lt hk h3)
    · have : k = i := by omega
      subst this; exact Int.le_refl _)
  exact ⟨by rw [hs]; exact hi, by simp only [hs]⟩
theorem del_perm (L : List Rt) (i : Nat) (h : i < L.length) : (L[i] :: (L.take i ++ L.drop (i + 1))).Perm L := by
  refine List.perm_middle.symm.trans ?_
  rw [← List.drop_eq_getElem_cons h, List.take_append_drop]
theorem rise_del {L : List Rt} (hL : Rise L) (i : Nat) : Rise (L.take i ++ L.drop (i + 1)) := by
  have hL2 : (L.take i ++ L.drop i).Pairwise fun a b => a.met < b.met := by rw [List.take_append_drop]; exact hL
  obtain ⟨p1, p2, p3⟩ := List.pairwise_append.1 hL2
  have hs : ∀ y ∈ L.drop (i + 1), y ∈ L.drop i := fun y hy => by
    rw [← List.drop_drop] at hy
    exact List.mem_of_mem_drop hy
  exact List.pairwise_append.2 ⟨p1, hL.sublist (List.drop_sublist _ _), fun y hy z hz => p3 y hy z (hs z hz)⟩
end Go.Proofs.Ytoidpakenocllaa.rou
