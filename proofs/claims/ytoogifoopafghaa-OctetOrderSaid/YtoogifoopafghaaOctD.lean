/-
  Chapter 1 (octet): the sums, by a walk of each text, part D. Conditions: none but those typed.
-/
import Derived.Test.YtoogifoopafghaaOctC
namespace Go.Proofs.Ytoogifoopafghaa.oct
set_option linter.unusedVariables false
set_option linter.unusedSimpArgs false
open Go.ChangeShapes Go.WideShapes Go.ChangeAt Go.RowKit Go.IntWalk Go.Lib
theorem row_none {k : IntKind} {w : World} {A : Option Addr} {n c : Nat} {zs : List Int} (h : IsRow k w A n c zs) : A = none → c = 0 := by
  rcases h with ⟨_, _, h, _⟩ | ⟨x, h, _⟩
  · exact fun _ => h
  · intro h'; rw [h] at h'; cases h'
set_option maxHeartbeats 1000000 in
theorem stands (w : World) (A B : Option Addr) (n cap d : Nat) (l : List Int) (hx : Rd .u8 w A (n + 1) (l ++ [171])) (hc : n + 1 ≤ cap) (hy : Rd .u8 w B n l) (hn : n ≤ 100000) :
    Calls Try.prog 20 #[.slice A (n + 1) cap, .slice B n d] w fun e w' => e = .returned (.bool true) ∧ ∃ m, w' = w.drewN m := by
  have HY := hid hy.len
  obtain ⟨g, off, rfl, hc2⟩ := hx.cells (by omega)
  have q := hc2 n (by omega)
  have e : (l ++ [171]).getD n 0 = 171 := by rw [← HY.out]; simp [List.getD_eq_getElem?_getD]
  rw [e] at q
  clear e hc2
  have ht := hx.take n (by omega)
  rw [List.take_append_of_le_length (by rw [HY.out]; exact Nat.le_refl n), List.take_of_length_le (by rw [HY.out]; exact Nat.le_refl n)] at ht
  have HT := hid ht; clear ht
  go_enter Try.func20, Try.ntmps20
  go_wp2_with fail
  refine (same w _ B n n _ d l l HT.out hy (by omega) (by omega)).mono ?_
  rintro e w2 ⟨rfl, m, rfl⟩
  rw [show decide (l = l) = true from by simp]
  go_wp2
  go_ret
  exact ⟨rfl, m, rfl⟩
theorem sumsOut (w : World) (A : Option Addr) (n c : Nat) (h : 4000 < n) : Calls Try.prog 3 #[.slice A n c] w fun e w' => e = .returned (.bool true) ∧ Only [] w w' := by
  go_enter Try.func3, Try.ntmps3
  go_wp2
  go_ret
  exact ⟨rfl, Only.refl _ _⟩
set_option maxHeartbeats 1000000 in
theorem sumsIn (w : World) (A : Option Addr) (n c : Nat) (l : List Int) (hl : Rd .u8 w A n l) (hc0 : A = none → c = 0) (hn : ¬ 4000 < n) :
    Calls Try.prog 3 #[.slice A n c] w fun e w' => e = .returned (.bool true) ∧ Only [] w w' := by
  have HLen := hid hl.len
  go_enter Try.func3, Try.ntmps3
  go_wp2_with fail
  refine (roomy w A n c l hl hc0 (by omega)).mono ?_
  rintro e w1 ⟨B, cap, rfl, hcap, hr, o1⟩
  obtain ⟨g, off, rfl, _, _⟩ := hr.at_ (by omega)
  have HR := hid hr; have O1 := hid o1
  have ht := hr.take n (by omega)
  rw [List.take_append_of_le_length (by rw [HLen.out]; exact Nat.le_refl n), List.take_of_length_le (by rw [HLen.out]; exact Nat.le_refl n)] at ht
  have HT := hid ht; have HL := hid (hl.only_nil o1); clear ht hr o1
  go_wp2_with fail
  refine (part w1 _ n cap l HT.out (by omega)).mono ?_
  rintro e w2 ⟨rfl, m2, rfl⟩
  go_wp2_with fail
  refine (rpart _ A n c l (HL.out.drewN _) (by omega)).mono ?_
  rintro e w2 ⟨rfl, m3, rfl⟩
  go_wp2_with fail
  refine (sum1 _ _ n cap l (HT.out.drewN _) (by omega)).mono ?_
  rintro e w2 ⟨rfl, m4, rfl⟩
  go_wp2_with fail
  refine (sum2 _ A n c l (HL.out.drewN _) (by omega)).mono ?_
  rintro e w2 ⟨rfl, m5, rfl⟩
  go_wp2_with fail
  refine (stands _ _ A n cap c l (HR.out.drewN _) hcap (HL.out.drewN _) (by omega)).mono ?_
  rintro e w2 ⟨rfl, m6, rfl⟩
  go_wp2_with fail
  refine (known _).mono ?_
  rintro e w3 ⟨rfl, o3⟩
  have O3 := hid o3; clear o3
  go_wp2
  go_ret
  exact ⟨rfl, (O1.out.drewN _).trans O3.out⟩
theorem sums (w : World) (A : Option Addr) (n c : Nat) (l : List Int) (hl : Rd .u8 w A n l) (hc0 : A = none → c = 0) (hn : n ≤ 9223372036854775807) :
    Calls Try.prog 3 #[.slice A n c] w fun e w' => e = .returned (.bool true) ∧ Only [] w w' := by
  by_cases h : 4000 < n
  · exact sumsOut w A n c h
  · exact sumsIn w A n c l hl hc0 h
theorem F_zero (S : Int) (h : 0 ≤ S) : 65535 - F (S + (65535 - F S)) = 0 := by unfold F; omega
theorem sumF_bd (l : List Int) (h : ∀ z ∈ l, (Lit.int .u8 z).wf = true) : 0 ≤ sumF l ∧ sumF l ≤ 65535 := by
  have := F_bd (ws l) (ws_bd l (fun z hz => u8Bd (h z hz))).1
  unfold sumF; omega
theorem sum_behind (l : List Int) (h : ∀ z ∈ l, (Lit.int .u8 z).wf = true) (he : l.length % 2 = 0) : sumF (l ++ [sumF l / 256, sumF l % 256]) = 0 := by
  have hb := sumF_bd l h
  have h0 := (ws_bd l (fun z hz => u8Bd (h z hz))).1
  have e := ws_app l [sumF l / 256, sumF l % 256] he
  have e2 : ws [sumF l / 256, sumF l % 256] = sumF l := by simp [ws]; omega
  rw [e2] at e
  have hz := F_zero (ws l) h0
  show 65535 - F (ws (l ++ [sumF l / 256, sumF l % 256])) = 0
  rw [e]
  exact hz
theorem u8wf {z : Int} (h : 0 ≤ z ∧ z ≤ 255) : (Lit.int .u8 z).wf = true := (Lit.wf_int_iff .u8 z).2 h
theorem zeroOut (w : World) (A : Option Addr) (n c : Nat) (h : 4000 < n ∨ n % 2 = 1) (hn : n ≤ 9223372036854775807) : Calls Try.prog 5 #[.slice A n c] w fun e w' => e = .returned (.bool true) ∧ Only [] w w' := by
  by_cases h4 : 4000 < n
  · go_enter Try.func5, Try.ntmps5
    go_wp2
    go_ret
    exact ⟨rfl, Only.refl _ _⟩
  · have h1 : (n : Int) % 2 = 1 := by omega
    go_enter Try.func5, Try.ntmps5
    go_wp2
    go_ret
    exact ⟨rfl, Only.refl _ _⟩
set_option maxHeartbeats 1000000 in
theorem zeroIn (w : World) (A : Option Addr) (n c : Nat) (l : List Int) (hl : Rd .u8 w A n l) (hc0 : A = none → c = 0) (hn : ¬ 4000 < n) (he : (n : Int) % 2 = 0) :
    Calls Try.prog 5 #[.slice A n c] w fun e w' => e = .returned (.bool true) ∧ Only [] w w' := by
  have HLen := hid hl.len
  have hs := sumF_bd l hl.wf
  have HZ : Hid (sumF (l ++ [sumF l / 256, sumF l % 256]) = 0) := hid (sum_behind l hl.wf (by rw [hl.len]; omega))
  have HW : Hid (∀ z ∈ [sumF l / 256, sumF l % 256], (Lit.int .u8 z).wf = true) := hid (by intro z hz; simp at hz; rcases hz with rfl | rfl <;> exact u8wf (by omega))
  go_enter Try.func5, Try.ntmps5
  go_wp2_with fail
  refine (sum1 w A n c l hl (by omega)).mono ?_
  rintro e w2 ⟨rfl, m, rfl⟩
  generalize sumF l = s at *
  have H0 : Hid (Own .u8 5 ((w.drewN m).alloc (.cells #[] 5)) w.heap.size (.slice (some ⟨w.heap.size, 0, none⟩) 0 0) []) := hid (Own.lit .u8 _ (w.drewN m) w.heap.size [] _ 0 rfl rfl (Nat.le_refl _) (by decide) (by simp))
  go_wp2_with (at_builtin; refine wpList_app _ rfl (.tmp 15) (.tmp 16) _ rfl elemB w.heap.size _ [] rfl ?c1 A n c l rfl ?c2 ?c3 ?c4 ?c5 ?c6 ?_)
  case c1 => exact H0.out
  case c2 => exact ((hl.drewN m).alloc _)
  case c3 => exact hc0
  case c4 => simp; omega
  case c5 => simp; unfold maxLen; omega
  case c6 => simp; try omega
  intro v1 w1 hv1 hg1 hb1
  have V1 : Hid (Own .u8 5 w1 w.heap.size v1 l) := hid hv1
  have G1 : Hid (Only [] w w1) := hid ((((Only.refl [] w).drewN m).alloc _).of_grown hg1 (by intro k hk; simp [Value.ownBlock] at hk; omega))
  have s1 := G1.out.size
  clear hv1 hg1 hb1
  go_wp2_with (at_builtin; refine wpList_app _ rfl (.tmp 17) (.tmp 23) _ rfl elemB w.heap.size v1 l rfl ?c1 (some ⟨w1.heap.size, 0, none⟩) 2 2 [s / 256, s % 256] rfl ?c2 ?c3 ?c4 ?c5 ?c6 ?_)
  case c1 => exact V1.out.alloc _
  case c2 => exact (Own.lit .u8 5 w1 w.heap.size [s / 256, s % 256] _ 2 rfl rfl s1 (by simp [maxLen]) HW.out).rd
  case c3 => simp
  case c4 => rw [HLen.out]; omega
  case c5 => rw [HLen.out]; unfold maxLen; omega
  case c6 => simp; try omega
  intro v2 w2 hv2 hg2 hb2
  have G2 : Hid (Only [] w w2) := hid ((G1.out.alloc _).of_grown hg2 (fun k hk => .inr (V1.out.lt k hk).1))
  obtain ⟨A2, cap2, e2, hcap2, _, hr2, _⟩ := hv2.slice
  simp only [List.length_append, HLen.out, List.length_cons, List.length_nil, Nat.zero_add, Nat.reduceAdd] at e2 hcap2 hr2
  subst e2
  have R2 := hid hr2
  clear hv2 hg2 hb2 hr2
  go_wp2_with fail
  refine (sum1 _ _ _ _ _ R2.out (by omega)).mono ?_
  rintro e w3 ⟨rfl, m3, rfl⟩
  rw [HZ.out]
  go_wp2_with fail
  refine (known _).mono ?_
  rintro e w4 ⟨rfl, o4⟩
  have O4 := hid o4; clear o4
  go_wp2
  go_ret
  exact ⟨rfl, (G2.out.drewN _).trans O4.out⟩
theorem zero (w : World) (A : Option Addr) (n c : Nat) (l : List Int) (hl : Rd .u8 w A n l) (hc0 : A = none → c = 0) (hn : n ≤ 9223372036854775807) :
    Calls Try.prog 5 #[.slice A n c] w fun e w' => e = .returned (.bool true) ∧ Only [] w w' := by
  by_cases h : 4000 < n ∨ n % 2 = 1
  · exact zeroOut w A n c h hn
  · exact zeroIn w A n c l hl hc0 (by omega) (by omega)
end Go.Proofs.Ytoogifoopafghaa.oct
