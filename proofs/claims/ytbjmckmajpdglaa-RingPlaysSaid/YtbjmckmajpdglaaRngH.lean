/-
  Chapter 13 (ring): a Ring's functions, and the document's, each by a walk of its text. Conditions: none but those typed.
-/
import Derived.Test.YtbjmckmajpdglaaRngG
import Derived.Test.YtbjmckmajpdglaaOplR
namespace Go.Proofs.Ytbjmckmajpdglaa.rng
set_option linter.unusedVariables false
set_option linter.unusedSimpArgs false
open Go.ChangeShapes Go.WideShapes Go.ChangeAt Go.RowKit Go.IntWalk Go.Lib
theorem St.onlyS {w w' : World} {g b N : Nat} {l : List Int} {S : List Nat} (h : St w g b N l) (o : Only S w w') (h1 : g ∉ S) (h2 : b ∉ S) : St w' g b N l := by
  obtain ⟨f, z, k1, k2, k3, k4⟩ := h
  exact ⟨f, z, k1.only o h1, k2.only o h2, k3, k4⟩
/-- The document's Ring that holds l, at bytes of no block of a list. -/
def Et (w : World) (g N : Nat) (T : List Nat) (l : List Int) : Prop := ∃ A c, EObj w g N A l.length c ∧ Rd .u8 w A l.length l ∧ (A = none → c = 0) ∧ l.length ≤ c ∧ c ≤ maxLen ∧ (A = none ∨ ∃ b off, A = some ⟨b, off, none⟩) ∧ (0 < l.length → ∀ b off, A = some ⟨b, off, none⟩ → b ∉ T)
theorem Et.onlyS {w w' : World} {g N : Nat} {T S : List Nat} {l : List Int} (h : Et w g N T l) (o : Only S w w') (h1 : g ∉ S) (h2 : ∀ k, k ∈ S → k ∈ T ∨ w.heap.size ≤ k) : Et w' g N T l := by
  obtain ⟨A, c, k1, k2, k3, k4, k5, k6, k7⟩ := h
  refine ⟨A, c, k1.only o h1, ?_, k3, k4, k5, k6, k7⟩
  rcases Nat.eq_zero_or_pos l.length with h0 | h0
  · have e : l = [] := List.eq_nil_of_length_eq_zero h0
    subst e
    exact Rd.nil _ _ _
  · refine k2.only o (fun b off e hb hm => ?_)
    rcases h2 b hm with h | h
    · exact k7 h0 b off e h
    · omega
/-- .. and of blocks that are not there yet. -/
theorem Et.more {w : World} {g N : Nat} {T : List Nat} {l : List Int} (h : Et w g N T l) (T' : List Nat) (hT : ∀ k, k ∈ T' → k ∈ T ∨ w.heap.size ≤ k) : Et w g N T' l := by
  obtain ⟨A, c, k1, k2, k3, k4, k5, k6, k7⟩ := h
  refine ⟨A, c, k1, k2, k3, k4, k5, k6, fun h0 b off e hm => ?_⟩
  rcases hT b hm with h | h
  · exact k7 h0 b off e h
  · obtain ⟨b2, off2, e2, hb2, _⟩ := k2.at_ h0
    rw [e] at e2; injection e2 with e2; injection e2 with e2 e3
    omega
theorem ewriteEt (w : World) (g N : Nat) (T T' : List Nat) (l p : List Int) (AP : Option Addr) (nP cP : Nat) (H : Et w g N T l) (hle : l.length ≤ N) (hN : N ≤ 1048560) (hp : Rd .u8 w AP nP p) (hp0 : AP = none → cP = 0) (hpc : nP ≤ cP) (hpn : nP ≤ 140737488351232) (k : Nat) (hk : k = min nP (N - l.length)) (hT' : ∀ x, x ∈ T' → x < w.heap.size) :
    Calls Try.prog 14 #[.pointer (some ⟨g, 0, none⟩), .slice AP nP cP] w (fun x w' => x = .returned (.int .i64 (k : Nat)) ∧ Et w' g N T' (l ++ p.take k) ∧ Only [g] w w') := by
  obtain ⟨A, c, k1, k2, k3, k4, k5, k6, k7⟩ := H
  refine (ewrite w g N A l.length c l AP nP cP p k1 k2 k3 hle hN hp hp0 hpc hpn k hk).mono ?_
  rintro x w' ⟨e, A', c', j1, j2, j3, j4, j5, j6, j7, j8⟩
  have hl : (l ++ p.take k).length = l.length + k := by rw [List.length_append, List.length_take, hp.len]; omega
  refine ⟨e, ⟨A', c', by rw [hl]; exact j1, by rw [hl]; exact j2, j3, by rw [hl]; exact j4, j5, j7, fun h0 b off e hm => ?_⟩, j8⟩
  have := j6 b off e
  have := hT' b hm
  omega
theorem epeekEt (w : World) (g N : Nat) (T : List Nat) (l : List Int) (a m : Int) (H : Et w g N T l) (hle : l.length ≤ 1048560) (ha : -9223372036854775808 ≤ a ∧ a ≤ 9223372036854775807) (hm : -9223372036854775808 ≤ m ∧ m ≤ 9223372036854775807) :
    Calls Try.prog 19 #[.pointer (some ⟨g, 0, none⟩), .int .i64 a, .int .i64 m] w (PEnd w (peekL l a m)) := by
  obtain ⟨A, c, k1, k2, k3, k4, k5, k6, k7⟩ := H
  exact epeek w g N A l.length c l a m k1 k2 k3 k4 hle k5 ha hm
theorem edropEt (w : World) (g N : Nat) (T : List Nat) (l : List Int) (m : Int) (H : Et w g N T l) (hle : l.length ≤ 1048560) (hg : g ∈ T) (hm : -9223372036854775808 ≤ m ∧ m ≤ 9223372036854775807) :
    Calls Try.prog 21 #[.pointer (some ⟨g, 0, none⟩), .int .i64 m] w (fun x w' => x = .returned (.int .i64 (dropN l m : Nat)) ∧ Et w' g N T (l.drop (dropN l m)) ∧ Only [g] w w') := by
  obtain ⟨A, c, k1, k2, k3, k4, k5, k6, k7⟩ := H
  refine (edrop w g N A l.length c l m k1 k2 k3 k4 hle k5 k6 (fun h0 b off e eg => k7 h0 b off e (eg ▸ hg)) hm).mono ?_
  rintro x w' ⟨e, A', c', j1, j2, j3, j4, j5, j6, j7, j8⟩
  have hl : (l.drop (dropN l m)).length = l.length - dropN l m := List.length_drop
  refine ⟨e, ⟨A', c', by rw [hl]; exact j1, by rw [hl]; exact j2, j3, by rw [hl]; exact j4, j5, j7, fun h0 b off e hm => ?_⟩, j8⟩
  obtain ⟨off', e'⟩ := j6 b off e
  exact k7 (by omega) b off' e' hm
theorem elenEt (w : World) (g N : Nat) (T : List Nat) (l : List Int) (H : Et w g N T l) : Calls Try.prog 23 #[.pointer (some ⟨g, 0, none⟩)] w fun e w' => e = .returned (.int .i64 l.length) ∧ w = w' := by
  obtain ⟨A, c, k1, _⟩ := H
  exact elen w g N A l.length c k1
theorem efreeEt (w : World) (g N : Nat) (T : List Nat) (l : List Int) (H : Et w g N T l) (hle : l.length ≤ N) (hN : N ≤ 1048560) : Calls Try.prog 25 #[.pointer (some ⟨g, 0, none⟩)] w fun e w' => e = .returned (.int .i64 (N - l.length : Nat)) ∧ ∃ q, w' = w.drewN q := by
  obtain ⟨A, c, k1, _⟩ := H
  exact efree w g N A l.length c k1 hle hN
theorem lenSt (w : World) (g b N : Nat) (l : List Int) (H : St w g b N l) : Calls Try.prog 22 #[.pointer (some ⟨g, 0, none⟩)] w fun e w' => e = .returned (.int .i64 l.length) ∧ w = w' := by
  obtain ⟨f, z, h1, _⟩ := H
  exact len w g b N f l.length h1
theorem freeSt (w : World) (g b N : Nat) (l : List Int) (H : St w g b N l) (hN : N ≤ 1048560) : Calls Try.prog 24 #[.pointer (some ⟨g, 0, none⟩)] w fun e w' => e = .returned (.int .i64 (N - l.length : Nat)) ∧ ∃ q, w' = w.drewN q := by
  obtain ⟨f, z, h1, h2, h3, h4⟩ := H
  exact free w g b N f l.length h1 hN h4.fits
/-- How much is written in the first j steps, as far as they are played. -/
def totR (RN : Nat → Nat) : Nat → Nat
  | 0 => 0
  | j + 1 => totR RN j + RN j
theorem totR_le {RN : Nat → Nat} {i j : Nat} (h : i ≤ j) : totR RN i ≤ totR RN j := by
  induction j with
  | zero => obtain rfl : i = 0 := by omega
            exact Nat.le_refl _
  | succ j ih =>
    rcases Nat.lt_or_ge i (j + 1) with h1 | h1
    · exact Nat.le_trans (ih (by omega)) (by simp [totR])
    · obtain rfl : i = j + 1 := by omega
      exact Nat.le_refl _
def HEnd (RN : Nat → Nat) (n : Nat) (w : World) (x : Ending) (w' : World) : Prop := ∃ t : Bool, x = .returned (.bool t) ∧ (t = false → totR RN n ≤ 6000) ∧ w = w'
set_option maxHeartbeats 400000 in
theorem heavy (w : World) (A : Option Addr) (len c : Nat) (V0 V1 V2 : Nat → Int) (RA : Nat → Option Addr) (RN RC : Nat → Nat) (P : Nat → List Int) (h : OplR w A len V0 V1 V2 RA RN RC P) (hlen : len ≤ 140737488351232) :
    Calls Try.prog 8 #[.slice A len c] w (HEnd RN (min len 200) w) := by
  have H := hid h; clear h
  go_enter Try.func8, Try.ntmps8
  go_wp2
  go_loop [3, 4] (fun n i => ∃ (j : Nat), j ≤ min len 200 ∧ i = .int .i64 j ∧ n = .int .i64 (totR RN j) ∧ totR RN j ≤ 6000) (fun _ i => len - (intOf i).toNat)
  case atStart => exact ⟨0, by omega, rfl, rfl, by simp [totR]⟩
  case round =>
    obtain ⟨j, hj, rfl, rfl, ht⟩ := hrel
    by_cases hlt : j < min len 200
    · have hl1 : j < len := by omega
      have hl2 : (j : Int) < 200 := by omega
      obtain ⟨b, off, rfl, hb, hc⟩ := H.out.cells (by omega)
      obtain ⟨_, _, _, q3⟩ := hc j hl1
      have hr := (H.out.rd j hl1).1.2.2.1
      have HT : Hid (totR RN (j + 1) = totR RN j + RN j) := hid rfl
      clear hc
      generalize RN j = rn at *
      have HF : Hid (true = false → totR RN (min len 200) ≤ 6000) := hid (by simp)
      generalize htj : totR RN j = tj at *
      have HTJ := hid htj; clear htj
      by_cases h6 : tj + rn ≤ 6000
      · have h7 : ¬ ((tj : Int) + rn > 6000) := by omega
        go_wp2
        go_round
        case rel => exact ⟨j + 1, by omega, by go_num, by rw [HT.out]; go_num, by rw [HT.out]; omega⟩
        case measure => simp [intOf]; omega
      · have h7 : ((tj : Int) + rn > 6000) := by omega
        go_wp2
        go_ret
        exact ⟨true, rfl, HF.out, rfl⟩
    · have hjm : min len 200 = j := by omega
      have HF : Hid (totR RN (min len 200) ≤ 6000) := hid (by rw [hjm]; exact ht)
      by_cases hl : len ≤ 200
      · have hl1 : ¬ ((j : Int) < len) := by omega
        clear hjm hlt
        generalize totR RN j = tj at ht
        go_wp2
        go_ret
        exact ⟨false, rfl, fun _ => by have h9 := HF.out; first | exact h9 | (rw [show min len 200 = len from by omega] at h9; exact h9), rfl⟩
      · have hl1 : ((j : Int) < len) := by omega
        have hl2 : ¬ ((j : Int) < 200) := by omega
        clear hjm hlt
        generalize totR RN j = tj at ht
        go_wp2
        go_ret
        exact ⟨false, rfl, fun _ => by have h9 := HF.out; first | exact h9 | (rw [show min len 200 = len from by omega] at h9; exact h9), rfl⟩
end Go.Proofs.Ytbjmckmajpdglaa.rng
