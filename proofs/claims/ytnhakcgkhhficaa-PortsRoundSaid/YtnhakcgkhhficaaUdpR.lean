/-
  Chapter 11 (udp): ports that are picked with one draw, by a walk of each text. Conditions: none but those typed.
-/
import Derived.Test.YtnhakcgkhhficaaUdpM
import Derived.OwnWalk
namespace Go.Proofs.Ytnhakcgkhhficaa.udp
set_option linter.unusedVariables false
set_option linter.unusedSimpArgs false
open Go.ChangeShapes Go.WideShapes Go.ChangeAt Go.RowKit Go.IntWalk Go.Lib
/-- The k-th port that is picked. -/
def prt (f : Int) (k : Nat) : Int := 49152 + (f + k) % 16384
def bnd (f : Int) (k : Nat) : List Value := [.int .i64 k, .int .u32 0, .int .i64 (prt f k), .int .u32 0, .int .i64 0]
def bc (f : Int) : Nat → List Value
  | 0 => []
  | n + 1 => bc f n ++ bnd f n
theorem bc_len (f : Int) : ∀ n, (bc f n).length = n * 5
  | 0 => rfl
  | n + 1 => by simp [bc, bnd, bc_len f n]; omega
theorem bc_get (f : Int) : ∀ (n i t : Nat), i < n → t < 5 → (bc f n)[i * 5 + t]? = (bnd f i)[t]?
  | n + 1, i, t, hi, ht => by
    unfold bc
    rcases Nat.lt_or_ge i n with h | h
    · rw [List.getElem?_append_left (by rw [bc_len]; omega)]
      exact bc_get f n i t h ht
    · obtain rfl : i = n := by omega
      rw [List.getElem?_append_right (by rw [bc_len]; omega), bc_len]
      congr 1
      omega
/-- Ports in block g that have picked n ports with a draw f. -/
def PSt (w : World) (g base : Nat) (f : Int) (n : Nat) : Prop := ∃ v, Ob w g 56 #[v] ∧ w.ownsRow base 74 5 v n (bc f n) ∧ v.ownBlock ≠ some g ∧ base ≤ g
theorem PSt.form {w : World} {g base : Nat} {f : Int} {n : Nat} (h : PSt w g base f n) : ∃ A c, Ob w g 56 #[.slice A n c] ∧ Bnds w A n (fun k => k) (fun _ => 0) (prt f) (fun _ => 0) (fun _ => 0) := by
  obtain ⟨v, ho, hv, hn, hb⟩ := h
  rcases hv.2 with ⟨hv0, h0⟩ | ⟨b, cap, cur, hv1, hb1, hh, hc1, hc2, hs, ht⟩
  · subst hv0 h0
    exact ⟨none, 0, ho, fun h => absurd h (by omega)⟩
  · subst hv1
    refine ⟨some ⟨b, 0, none⟩, cap, ho, fun _ => ⟨b, 0, rfl, ?_, fun i hi => ?_⟩⟩
    · exact (hv.lt b rfl).2
    · have hc := fun t (ht : t < 5) => hv.cells (g := b) rfl (i * 5 + t)
      have key : ∀ t (ht : t < 5) u, (bnd f i)[t]? = some u → w.cell? ⟨b, 0 + i * 5 + t, none⟩ = some u := fun t ht u hu => by
        have h9 := hc t ht u (by rw [bc_get f n i t hi ht]; exact hu)
        rw [addr_plus] at h9
        rw [show 0 + i * 5 + t = 0 + (i * 5 + t) from by omega]
        exact h9
      have k0 := key 0 (by omega) _ rfl
      exact ⟨k0, key 1 (by omega) _ rfl, key 2 (by omega) _ rfl, key 3 (by omega) _ rfl, key 4 (by omega) _ rfl⟩
theorem PSt.only_nil {w w' : World} {g base : Nat} {f : Int} {n : Nat} (h : PSt w g base f n) (o : Only [] w w') : PSt w' g base f n := by
  obtain ⟨v, ho, hv, hn, hb⟩ := h
  refine ⟨v, ho.only o (by simp), ⟨hv.1, ?_⟩, hn, hb⟩
  rcases hv.2 with h | ⟨b, cap, cur, hv1, hb1, hh, r⟩
  · exact .inl h
  · refine .inr ⟨b, cap, cur, hv1, hb1, ?_, r⟩
    rw [o.block b (by
      rcases Nat.lt_or_ge b w.heap.size with h | h
      · exact h
      · rw [Array.getElem?_eq_none h] at hh; cases hh) (by simp)]
    exact hh
theorem placeN (w : World) (g base : Nat) (f : Int) (n : Nat) (h : PSt w g base f n) (hn : n ≤ 64) : Calls Try.prog 35 #[.pointer (some ⟨g, 0, none⟩), .int .i64 n] w fun x w' => x = .returned (.int .i64 (-1)) ∧ Only [] w w' := by
  obtain ⟨A, c, ho, hb⟩ := h.form
  have c0 := ho.cell 0
  have hlt := ho.lt
  have QB : Hid (Only [] w (w.alloc (.cells #[.int .i64 n] 3))) := hid ((Only.refl [] w).alloc _)
  have OI : Hid (Ob (w.alloc (.cells #[.int .i64 n] 3)) w.heap.size 3 #[.int .i64 n]) := hid (Ob.new _ _ _)
  have HB := hid hb
  clear h ho hb
  go_enter Try.func35, Try.ntmps35
  go_wp2_with fail
  refine (idxId _ A n c _ _ _ _ _ w.heap.size n (HB.out.only_nil QB.out) OI.out (by omega)).mono ?_
  rintro x w' ⟨r, rfl, hr, o⟩
  have hr1 : r = -1 := by
    rcases hr with ⟨h, _⟩ | ⟨k, hk, _, he, _⟩
    · exact h
    · have he2 : (k : Int) = (n : Int) := he
      omega
  subst hr1
  have QB := hid (QB.out.trans o)
  clear o hr
  go_wp2
  go_ret
  exact ⟨rfl, QB.out⟩
theorem roomN (w : World) (g base : Nat) (f : Int) (n : Nat) (h : PSt w g base f n) (hn : n ≤ 64) (r : Int) (hr : r = if n = 64 then 6 else 0) : Calls Try.prog 30 #[.pointer (some ⟨g, 0, none⟩), .int .i64 n] w fun x w' => x = .returned (.int .i64 r) ∧ Only [] w w' := by
  have H := hid h; clear h
  obtain ⟨A, c, ho, hb⟩ := H.out.form
  have HO := hid ho
  clear ho hb
  by_cases h64 : n = 64
  · rw [if_pos h64] at hr
    subst h64
    have HR := hid hr; clear hr
    go_enter Try.func30, Try.ntmps30
    go_wp2_with fail
    refine (placeN w g base f 64 H.out hn).mono ?_
    rintro x w' ⟨rfl, o⟩
    have c0 := (HO.out.only o (by simp)).cell 0
    have QB := hid o
    clear o
    go_wp2
    go_ret
    exact ⟨rInt HR.out.symm, QB.out⟩
  · rw [if_neg h64] at hr
    subst hr
    have hlt : (n : Int) < 64 := by omega
    go_enter Try.func30, Try.ntmps30
    go_wp2_with fail
    refine (placeN w g base f n H.out hn).mono ?_
    rintro x w' ⟨rfl, o⟩
    have c0 := (HO.out.only o (by simp)).cell 0
    have QB := hid o
    clear o
    go_wp2
    go_ret
    exact ⟨rfl, QB.out⟩
theorem prt_ne (f : Int) (hf : 0 ≤ f) (j k : Nat) (hj : j < 16384) (hk : k < j) : prt f k ≠ prt f j := by unfold prt; omega
theorem takenN (w : World) (g base : Nat) (f : Int) (n j : Nat) (hf : 0 ≤ f) (h : PSt w g base f n) (hn : n ≤ 64) (hj : j ≤ n) (r : Bool) (hr : r = decide (j < n)) : Calls Try.prog 31 #[.pointer (some ⟨g, 0, none⟩), .int .u32 0, .int .i64 (prt f j)] w fun x w' => x = .returned (.bool r) ∧ Only [] w w' := by
  obtain ⟨A, c, ho, hb⟩ := h.form
  have c0 := ho.cell 0
  have hlt := ho.lt
  have HB := hid hb
  have HR := hid hr
  have HT : Hid (∀ q : Int, ((q = -1 ∧ ∀ i, i < n → inWay (fun _ => 0) (prt f) (prt f j) 0 i = false) ∨ ∃ k : Nat, k < n ∧ q = k ∧ inWay (fun _ => 0) (prt f) (prt f j) 0 k = true ∧ ∀ i, i < k → inWay (fun _ => 0) (prt f) (prt f j) 0 i = false) → decide (0 ≤ q) = decide (j < n)) := hid (fun q hq => by
    rcases hq with ⟨rfl, h1⟩ | ⟨k, hk, rfl, h1, _⟩
    · have : ¬ j < n := fun hjn => by
        have h2 := h1 j hjn
        simp [inWay] at h2
      simp [this]
    · have h2 : prt f k = prt f j := by simpa [inWay] using h1
      have h3 : j < n := by
        rcases Nat.lt_or_ge k j with h | h
        · exact absurd h2 (prt_ne f hf j k (by omega) h)
        · omega
      simp [h3])
  clear h ho hb hr
  generalize hP : prt f j = q at *
  have HP := hid hP; clear hP
  have QB : Hid (Only [] w ((w.alloc (.cells #[.int .u32 0] 23)).alloc (.cells #[.int .i64 q] 3))) := hid (((Only.refl [] w).alloc _).alloc _)
  have OA : Hid (Ob ((w.alloc (.cells #[.int .u32 0] 23)).alloc (.cells #[.int .i64 q] 3)) w.heap.size 23 #[.int .u32 0]) := hid ((Ob.new _ _ _).alloc _)
  have OP : Hid (Ob ((w.alloc (.cells #[.int .u32 0] 23)).alloc (.cells #[.int .i64 q] 3)) (w.heap.size + 1) 3 #[.int .i64 q]) := hid (by simpa using Ob.new (w.alloc (.cells #[.int .u32 0] 23)) 3 #[.int .i64 q])
  go_enter Try.func31, Try.ntmps31
  go_wp2_with fail
  have HCF : ∀ (W : World), Hid (Only [] w W) → Ob W (w.heap.size + 1) 3 #[.int .i64 q] → Ob W w.heap.size 23 #[.int .u32 0] → Calls Try.prog 50 #[.slice A n c, .func (.func 51) #[] #[.pointer (some ⟨w.heap.size + 1, 0, none⟩), .pointer (some ⟨w.heap.size, 0, none⟩)]] W fun x w' => x = .returned (.bool r) ∧ Only [] W w' := by
    intro W hW h1 h2
    go_enter Try.func50, Try.ntmps50
    go_wp2_with fail
    refine (idxTkn _ A n c _ _ _ _ _ _ _ _ _ (HB.out.only_nil hW.out) h1 h2 (by omega)).mono ?_
    rintro x w' ⟨z, rfl, hz, o⟩
    have hz2 := HT.out z hz
    have HZ : Hid (decide (0 ≤ z) = r) := hid (by rw [hz2, HR.out])
    have QW := hid o
    clear hz hz2 o
    go_wp2
    go_ret
    exact ⟨rBool (by rw [← HZ.out]), QW.out⟩
  refine (HCF _ QB OP.out OA.out).mono ?_
  rintro x w' ⟨rfl, o⟩
  have QB := hid (QB.out.trans o)
  clear o HCF
  go_wp2
  go_ret
  exact ⟨rfl, QB.out⟩
end Go.Proofs.Ytnhakcgkhhficaa.udp
