/-
  Chapter 1 (octet): the sums, by a walk of each text, part F. Conditions: none but those typed.
-/
import Derived.Test.YtoogifoopafghaaOctE
namespace Go.Proofs.Ytoogifoopafghaa.oct
set_option linter.unusedVariables false
set_option linter.unusedSimpArgs false
open Go.ChangeShapes Go.WideShapes Go.ChangeAt Go.RowKit Go.IntWalk Go.Lib
theorem ws_set : ∀ (l : List Int) (i : Nat) (v : Int), i < l.length → l.length % 2 = 0 → ws (l.set i v) = ws l + (v - l.getD i 0) * (if i % 2 = 0 then 256 else 1)
  | [], i, v, h, _ => by simp at h
  | [a], i, v, _, h => by simp at h
  | a :: b :: r, 0, v, _, _ => by simp [ws]; omega
  | a :: b :: r, 1, v, _, _ => by simp [ws]; omega
  | a :: b :: r, i + 2, v, h, he => by
    have := ws_set r i v (by simp at h; omega) (by simp at he; omega)
    simp only [List.set_cons_succ, ws, this, List.getD_cons_succ, Nat.add_mod_right]
    omega
theorem turned_ne (T x v : Int) (i : Nat) (hT : 0 ≤ T) (h0 : 65535 - F T = 0) (hx : 0 ≤ x ∧ x ≤ 255) (hv : 0 ≤ v ∧ v ≤ 255) (hne : v ≠ x) (hT' : 0 ≤ T + (v - x) * (if i % 2 = 0 then 256 else 1)) :
    65535 - F (T + (v - x) * (if i % 2 = 0 then 256 else 1)) ≠ 0 := by
  unfold F at *
  split <;> split at h0 <;> omega
theorem xor_ne (x y : Int) (hx : 0 ≤ x ∧ x ≤ 255) (hy : 0 ≤ y ∧ y ≤ 255) (hne : y ≠ 0) : 0 ≤ bits .xor .u8 x y ∧ bits .xor .u8 x y ≤ 255 ∧ bits .xor .u8 x y ≠ x := by
  rw [u8_xor x y hx.1 (by omega) hy.1 (by omega)]
  have h1 : x.toNat ^^^ y.toNat < 2 ^ 8 := Nat.xor_lt_two_pow (by omega) (by omega)
  refine ⟨by omega, by omega, fun h => ?_⟩
  have h2 : x.toNat ^^^ (x.toNat ^^^ y.toNat) = y.toNat := by rw [← Nat.xor_assoc, Nat.xor_self, Nat.zero_xor]
  rw [show x.toNat ^^^ y.toNat = x.toNat from by omega, Nat.xor_self] at h2
  omega
theorem rd_set {w : World} {b off n : Nat} {l : List Int} (h : Rd .u8 w (some ⟨b, off, none⟩) n l) (i : Nat) (hi : i < n) (z : Int) (hz : (Lit.int .u8 z).wf = true) :
    Rd .u8 (w.setCell ⟨b, off + i, none⟩ (.int .u8 z)) (some ⟨b, off, none⟩) n (l.set i z) := by
  refine ⟨by rw [List.length_set]; exact h.len, fun y hy => ?_, fun hn => ?_⟩
  · rcases List.mem_or_eq_of_mem_set hy with h1 | h1
    · exact h.wf y h1
    · rw [h1]; exact hz
  · obtain ⟨b', off', e, hc⟩ := h.cells hn
    obtain ⟨rfl, rfl⟩ : b = b' ∧ off = off' := by simpa using e
    refine ⟨b, off, rfl, fun j hj => ?_⟩
    by_cases hij : i = j
    · subst hij
      rw [World.cell?_setCell_same (h := hc i hi)]
      simp [List.getD_eq_getElem?_getD, h.len, hi]
    · rw [World.cell?_setCell_other (h := by intro e2; injection e2; omega), hc j hj]
      simp [List.getD_eq_getElem?_getD, List.getElem?_set, hij]
set_option maxHeartbeats 2000000 in
theorem turnedPos (w : World) (A : Option Addr) (n c i0 : Nat) (at' y : Int) (l : List Int) (hl : Rd .u8 w A n l) (hc0 : A = none → c = 0) (hn : ¬ 4000 < n) (hn0 : 0 < n) (he : (n : Int) % 2 = 0) (hy : 0 ≤ y ∧ y ≤ 255) (hy0 : ¬ y = 0) (hi0 : i0 < n + 2) (hr : at'.tmod ((n : Int) + 2) = (i0 : Int)) :
    Calls Try.prog 6 #[.slice A n c, .int .i64 at', .int .u8 y] w fun e w' => e = .returned (.bool true) ∧ Only [] w w' := by
  have HLen := hid hl.len
  have hs := sumF_bd l hl.wf
  have HZ : Hid (sumF (l ++ [sumF l / 256, sumF l % 256]) = 0) := hid (sum_behind l hl.wf (by rw [hl.len]; omega))
  have HW : Hid (∀ z ∈ [sumF l / 256, sumF l % 256], (Lit.int .u8 z).wf = true) := hid (by intro z hz; simp at hz; rcases hz with rfl | rfl <;> exact u8wf (by omega))
  have hb1 : ((n : Int) == 0) = false := by simp; omega
  have hb2 : (y == 0) = false := by simp; omega
  go_enter Try.func6, Try.ntmps6
  go_wp2_with fail
  refine (sum1 w A n c l hl (by omega)).mono ?_
  rintro e w2 ⟨rfl, m, rfl⟩
  generalize sumF l = s at *
  have H7 : Hid (Own .u8 5 ((w.drewN m).alloc (.cells #[] 5)) w.heap.size (.slice (some ⟨w.heap.size, 0, none⟩) 0 0) []) := hid (Own.lit .u8 _ (w.drewN m) w.heap.size [] _ 0 rfl rfl (Nat.le_refl _) (by decide) (by simp))
  go_wp2_with (at_builtin; refine wpList_app _ rfl (.tmp 30) (.tmp 31) _ rfl elemB (w.heap.size) _ [] rfl ?c1 A n c l rfl ?c2 ?c3 ?c4 ?c5 ?c6 ?_)
  case c1 => exact H7.out
  case c2 => exact (hl.drewN m).alloc _
  case c3 => exact hc0
  case c4 => skip; simp; omega
  case c5 => skip; unfold maxLen; simp; omega
  case c6 => simp
  intro va7 wa7 hv hg _
  have V7 : Hid (Own .u8 5 wa7 (w.heap.size) va7 l) := hid hv
  have K7 : Hid (Only [] (w.drewN m) wa7) := hid (((Only.refl [] (w.drewN m)).alloc _).of_grown hg (by intro k hk; simp [Value.ownBlock] at hk; exact .inr (by subst hk; exact Nat.le_refl _)))
  have sa7 : (w.heap.size) ≤ wa7.heap.size := K7.out.size
  clear hv hg
  go_wp2_with (at_builtin; refine wpList_app _ rfl (.tmp 32) (.tmp 38) _ rfl elemB (w.heap.size) va7 l rfl ?c1 (some ⟨wa7.heap.size, 0, none⟩) 2 2 [s / 256, s % 256] rfl ?c2 ?c3 ?c4 ?c5 ?c6 ?_)
  case c1 => exact V7.out.alloc _
  case c2 => exact (Own.lit .u8 5 wa7 (w.heap.size) [s / 256, s % 256] _ 2 rfl rfl sa7 (by simp [maxLen]) HW.out).rd
  case c3 => simp
  case c4 => rw [HLen.out]; omega
  case c5 => rw [HLen.out]; unfold maxLen; omega
  case c6 => simp; omega
  intro vb7 w7 hv hg _
  have J7 : Hid (Only [] (w.drewN m) w7) := hid ((K7.out.alloc _).of_grown hg (fun k hk => .inr (V7.out.lt k hk).1))
  have O7 : Hid (Own .u8 5 w7 (w.heap.size) vb7 _) := hid hv
  have Q7 : Hid (Only [] w w7) := hid (((Only.refl [] w).drewN m).trans J7.out)
  obtain ⟨A7, cap7, ev7, hcap7, hmx7, hr7, hbk7⟩ := hv.slice
  have R7 := hid hr7
  have B7 := hid hbk7
  clear hv hg hr7 hbk7
  simp only [List.length_append, HLen.out, List.length_cons, List.length_nil, Nat.zero_add, Nat.reduceAdd] at ev7 hcap7
  have HA' : Hid (Rd .u8 w7 A7 (n + 2) (l ++ [s / 256, s % 256])) := hid (by have := R7.out; rwa [List.length_append, HLen.out] at this)
  subst ev7
  obtain ⟨g, off, rfl, hgl, hcell⟩ := HA'.out.at_ (by omega)
  have q := hcell i0 hi0
  have f := O7.out.frozen (off + i0)
  have w0 := u8Bd (HA'.out.getD_wf i0 hi0)
  have HNe := hid (xor_ne _ y w0 hy hy0)
  have HSet := fun z hz => rd_set HA'.out i0 hi0 z hz
  have HEven : Hid ((l ++ [s / 256, s % 256]).length % 2 = 0) := hid (by rw [List.length_append, HLen.out]; simp; omega)
  have HWS := fun v => ws_set (l ++ [s / 256, s % 256]) i0 v (by rw [HA'.out.len]; exact hi0) HEven.out
  have HT0 := (ws_bd (l ++ [s / 256, s % 256]) (fun z hz => u8Bd (HA'.out.wf z hz))).1
  have HBg : Hid (w.heap.size ≤ g) := hid (by have := V7.out; exact (O7.out.lt g rfl).1)
  have HS2 := hid HSet; have HW2 := hid HWS; have HT2 := hid HT0
  clear R7 O7 hcell HSet HWS HT0
  generalize hq : l ++ [s / 256, s % 256] = lq at *
  clear hq
  generalize hxx : lq.getD i0 0 = xx at *
  generalize hvv : bits .xor .u8 xx y = vv at *
  clear hxx
  have hvw : (Lit.int .u8 vv).wf = true := u8wf ⟨HNe.out.1, HNe.out.2.1⟩
  have R8 := hid (HS2.out vv hvw)
  have HNZ : Hid (sumF (lq.set i0 vv) ≠ 0) := hid (by
    show 65535 - F (ws (lq.set i0 vv)) ≠ 0
    have h9 := (ws_bd (lq.set i0 vv) (fun z hz => u8Bd (R8.out.wf z hz))).1
    rw [HW2.out] at h9 ⊢
    exact turned_ne _ _ _ _ HT2.out HZ.out w0 ⟨HNe.out.1, HNe.out.2.1⟩ HNe.out.2.2 h9)
  have hvb := HNe.out
  go_wp2_with fail
  refine (sum1 _ _ _ _ _ R8.out (by omega)).mono ?_
  rintro e w3 ⟨rfl, m3, rfl⟩
  have hnz := HNZ.out
  generalize sumF (lq.set i0 vv) = sf at *
  go_wp2_with fail
  refine (known _).mono ?_
  rintro e w4 ⟨rfl, o4⟩
  have O4 := hid o4; clear o4
  go_wp2
  go_ret
  exact ⟨rBool (by simpa using hnz), ((Q7.out.setCell (.inr HBg.out) _).drewN _).trans O4.out⟩
set_option maxHeartbeats 2000000 in
theorem turnedNeg (w : World) (A : Option Addr) (n c i0 : Nat) (at' y : Int) (l : List Int) (hl : Rd .u8 w A n l) (hc0 : A = none → c = 0) (hn : ¬ 4000 < n) (hn0 : 0 < n) (he : (n : Int) % 2 = 0) (hy : 0 ≤ y ∧ y ≤ 255) (hy0 : ¬ y = 0) (hi0 : i0 < n + 2) (hi1 : 0 < n + 2 - i0) (hr : at'.tmod ((n : Int) + 2) = (i0 : Int) - ((n : Int) + 2)) :
    Calls Try.prog 6 #[.slice A n c, .int .i64 at', .int .u8 y] w fun e w' => e = .returned (.bool true) ∧ Only [] w w' := by
  have HLen := hid hl.len
  have hs := sumF_bd l hl.wf
  have HZ : Hid (sumF (l ++ [sumF l / 256, sumF l % 256]) = 0) := hid (sum_behind l hl.wf (by rw [hl.len]; omega))
  have HW : Hid (∀ z ∈ [sumF l / 256, sumF l % 256], (Lit.int .u8 z).wf = true) := hid (by intro z hz; simp at hz; rcases hz with rfl | rfl <;> exact u8wf (by omega))
  have hb1 : ((n : Int) == 0) = false := by simp; omega
  have hb2 : (y == 0) = false := by simp; omega
  go_enter Try.func6, Try.ntmps6
  go_wp2_with fail
  refine (sum1 w A n c l hl (by omega)).mono ?_
  rintro e w2 ⟨rfl, m, rfl⟩
  generalize sumF l = s at *
  have H7 : Hid (Own .u8 5 ((w.drewN m).alloc (.cells #[] 5)) w.heap.size (.slice (some ⟨w.heap.size, 0, none⟩) 0 0) []) := hid (Own.lit .u8 _ (w.drewN m) w.heap.size [] _ 0 rfl rfl (Nat.le_refl _) (by decide) (by simp))
  go_wp2_with (at_builtin; refine wpList_app _ rfl (.tmp 30) (.tmp 31) _ rfl elemB (w.heap.size) _ [] rfl ?c1 A n c l rfl ?c2 ?c3 ?c4 ?c5 ?c6 ?_)
  case c1 => exact H7.out
  case c2 => exact (hl.drewN m).alloc _
  case c3 => exact hc0
  case c4 => skip; simp; omega
  case c5 => skip; unfold maxLen; simp; omega
  case c6 => simp
  intro va7 wa7 hv hg _
  have V7 : Hid (Own .u8 5 wa7 (w.heap.size) va7 l) := hid hv
  have K7 : Hid (Only [] (w.drewN m) wa7) := hid (((Only.refl [] (w.drewN m)).alloc _).of_grown hg (by intro k hk; simp [Value.ownBlock] at hk; exact .inr (by subst hk; exact Nat.le_refl _)))
  have sa7 : (w.heap.size) ≤ wa7.heap.size := K7.out.size
  clear hv hg
  go_wp2_with (at_builtin; refine wpList_app _ rfl (.tmp 32) (.tmp 38) _ rfl elemB (w.heap.size) va7 l rfl ?c1 (some ⟨wa7.heap.size, 0, none⟩) 2 2 [s / 256, s % 256] rfl ?c2 ?c3 ?c4 ?c5 ?c6 ?_)
  case c1 => exact V7.out.alloc _
  case c2 => exact (Own.lit .u8 5 wa7 (w.heap.size) [s / 256, s % 256] _ 2 rfl rfl sa7 (by simp [maxLen]) HW.out).rd
  case c3 => simp
  case c4 => rw [HLen.out]; omega
  case c5 => rw [HLen.out]; unfold maxLen; omega
  case c6 => simp; omega
  intro vb7 w7 hv hg _
  have J7 : Hid (Only [] (w.drewN m) w7) := hid ((K7.out.alloc _).of_grown hg (fun k hk => .inr (V7.out.lt k hk).1))
  have O7 : Hid (Own .u8 5 w7 (w.heap.size) vb7 _) := hid hv
  have Q7 : Hid (Only [] w w7) := hid (((Only.refl [] w).drewN m).trans J7.out)
  obtain ⟨A7, cap7, ev7, hcap7, hmx7, hr7, hbk7⟩ := hv.slice
  have R7 := hid hr7
  have B7 := hid hbk7
  clear hv hg hr7 hbk7
  simp only [List.length_append, HLen.out, List.length_cons, List.length_nil, Nat.zero_add, Nat.reduceAdd] at ev7 hcap7
  have HA' : Hid (Rd .u8 w7 A7 (n + 2) (l ++ [s / 256, s % 256])) := hid (by have := R7.out; rwa [List.length_append, HLen.out] at this)
  subst ev7
  obtain ⟨g, off, rfl, hgl, hcell⟩ := HA'.out.at_ (by omega)
  have q := hcell i0 hi0
  have f := O7.out.frozen (off + i0)
  have w0 := u8Bd (HA'.out.getD_wf i0 hi0)
  have HNe := hid (xor_ne _ y w0 hy hy0)
  have HSet := fun z hz => rd_set HA'.out i0 hi0 z hz
  have HEven : Hid ((l ++ [s / 256, s % 256]).length % 2 = 0) := hid (by rw [List.length_append, HLen.out]; simp; omega)
  have HWS := fun v => ws_set (l ++ [s / 256, s % 256]) i0 v (by rw [HA'.out.len]; exact hi0) HEven.out
  have HT0 := (ws_bd (l ++ [s / 256, s % 256]) (fun z hz => u8Bd (HA'.out.wf z hz))).1
  have HBg : Hid (w.heap.size ≤ g) := hid (by have := V7.out; exact (O7.out.lt g rfl).1)
  have HS2 := hid HSet; have HW2 := hid HWS; have HT2 := hid HT0
  clear R7 O7 hcell HSet HWS HT0
  generalize hq : l ++ [s / 256, s % 256] = lq at *
  clear hq
  generalize hxx : lq.getD i0 0 = xx at *
  generalize hvv : bits .xor .u8 xx y = vv at *
  clear hxx
  have hvw : (Lit.int .u8 vv).wf = true := u8wf ⟨HNe.out.1, HNe.out.2.1⟩
  have R8 := hid (HS2.out vv hvw)
  have HNZ : Hid (sumF (lq.set i0 vv) ≠ 0) := hid (by
    show 65535 - F (ws (lq.set i0 vv)) ≠ 0
    have h9 := (ws_bd (lq.set i0 vv) (fun z hz => u8Bd (R8.out.wf z hz))).1
    rw [HW2.out] at h9 ⊢
    exact turned_ne _ _ _ _ HT2.out HZ.out w0 ⟨HNe.out.1, HNe.out.2.1⟩ HNe.out.2.2 h9)
  have hvb := HNe.out
  go_wp2_with fail
  refine (sum1 _ _ _ _ _ R8.out (by omega)).mono ?_
  rintro e w3 ⟨rfl, m3, rfl⟩
  have hnz := HNZ.out
  generalize sumF (lq.set i0 vv) = sf at *
  go_wp2_with fail
  refine (known _).mono ?_
  rintro e w4 ⟨rfl, o4⟩
  have O4 := hid o4; clear o4
  go_wp2
  go_ret
  exact ⟨rBool (by simpa using hnz), ((Q7.out.setCell (.inr HBg.out) _).drewN _).trans O4.out⟩
theorem turnedOut (w : World) (A : Option Addr) (n c : Nat) (at' y : Int) (h : 4000 < n ∨ (n : Int) % 2 = 1 ∨ n = 0 ∨ y = 0) (hn : n ≤ 9223372036854775807) : Calls Try.prog 6 #[.slice A n c, .int .i64 at', .int .u8 y] w fun e w' => e = .returned (.bool true) ∧ Only [] w w' := by
  by_cases h1 : 4000 < n
  · go_enter Try.func6, Try.ntmps6
    go_wp2
    go_ret
    exact ⟨rfl, Only.refl _ _⟩
  by_cases h2 : (n : Int) % 2 = 1
  · go_enter Try.func6, Try.ntmps6
    go_wp2
    go_ret
    exact ⟨rfl, Only.refl _ _⟩
  by_cases h3 : n = 0
  · subst h3
    go_enter Try.func6, Try.ntmps6
    go_wp2
    go_ret
    exact ⟨rfl, Only.refl _ _⟩
  · obtain rfl : y = 0 := by omega
    have h4 : (n : Int) % 2 = 0 := by omega
    have hb1 : ((n : Int) == 0) = false := by simp; omega
    go_enter Try.func6, Try.ntmps6
    go_wp2
    go_ret
    exact ⟨rfl, Only.refl _ _⟩
theorem turned (w : World) (A : Option Addr) (n c : Nat) (at' y : Int) (l : List Int) (hl : Rd .u8 w A n l) (hc0 : A = none → c = 0) (hn : n ≤ 9223372036854775807) (hy : 0 ≤ y ∧ y ≤ 255) :
    Calls Try.prog 6 #[.slice A n c, .int .i64 at', .int .u8 y] w fun e w' => e = .returned (.bool true) ∧ Only [] w w' := by
  by_cases h : 4000 < n ∨ (n : Int) % 2 = 1 ∨ n = 0 ∨ y = 0
  · exact turnedOut w A n c at' y h hn
  · have hlt := Int.tmod_lt_of_pos at' (b := (n : Int) + 2) (by omega)
    have hgt : -((n : Int) + 2) < at'.tmod ((n : Int) + 2) := by
      rcases Int.le_total 0 at' with h0 | h0
      · have := Int.tmod_nonneg ((n : Int) + 2) h0; omega
      · have h1 := Int.tmod_lt_of_pos (-at') (b := (n : Int) + 2) (by omega)
        rw [Int.neg_tmod] at h1; omega
    by_cases hs : 0 ≤ at'.tmod ((n : Int) + 2)
    · exact turnedPos w A n c (at'.tmod ((n : Int) + 2)).toNat at' y l hl hc0 (by omega) (by omega) (by omega) hy (by omega) (by omega) (by omega)
    · exact turnedNeg w A n c (at'.tmod ((n : Int) + 2) + ((n : Int) + 2)).toNat at' y l hl hc0 (by omega) (by omega) (by omega) hy (by omega) (by omega) (by omega) (by omega)
end Go.Proofs.Ytoogifoopafghaa.oct
