/-
  Chapter 1 (octet): the sums, by a walk of each text, part E. Conditions: none but those typed.
-/
import Derived.Test.YtoogifoopafghaaOctD
namespace Go.Proofs.Ytoogifoopafghaa.oct
set_option linter.unusedVariables false
set_option linter.unusedSimpArgs false
open Go.ChangeShapes Go.WideShapes Go.ChangeAt Go.RowKit Go.IntWalk Go.Lib
theorem F_join (la lb : List Int) (ha : ∀ z ∈ la, (Lit.int .u8 z).wf = true) (hb : ∀ z ∈ lb, (Lit.int .u8 z).wf = true) (he : la.length % 2 = 0) :
    F (F (ws la) % 65536 + F (ws lb) % 65536) = F (ws (la ++ lb)) := by
  have h1 := (ws_bd la (fun z hz => u8Bd (ha z hz))).1
  have h2 := (ws_bd lb (fun z hz => u8Bd (hb z hz))).1
  have b1 := F_bd (ws la) h1
  have b2 := F_bd (ws lb) h2
  rw [ws_app la lb he, show F (ws la) % 65536 = F (ws la) from by omega, show F (ws lb) % 65536 = F (ws lb) from by omega,
    F_add (ws la) (F (ws lb)) h1 b2.1, Int.add_comm (ws la) (F (ws lb)), F_add (ws lb) (ws la) h2 h1, Int.add_comm]
theorem joinsOut (w : World) (A B : Option Addr) (n m c d : Nat) (x y : Int) (h : 4000 < n + m) (hn : n ≤ 4611686018427387903) (hm : m ≤ 4611686018427387903) : Calls Try.prog 4 #[.slice A n c, .slice B m d, .int .i64 x, .int .i64 y] w fun e w' => e = .returned (.bool true) ∧ Only [] w w' := by
  go_enter Try.func4, Try.ntmps4
  go_wp2
  go_ret
  exact ⟨rfl, Only.refl _ _⟩
set_option maxHeartbeats 2000000 in
theorem joinsEven (w : World) (A B : Option Addr) (n m c d : Nat) (x y : Int) (la lb : List Int) (ha : Rd .u8 w A n la) (hb : Rd .u8 w B m lb) (hca : A = none → c = 0) (hcb : B = none → d = 0) (h : ¬ 4000 < n + m) (he : (n : Int) % 2 = 0) :
    Calls Try.prog 4 #[.slice A n c, .slice B m d, .int .i64 x, .int .i64 y] w fun e w' => e = .returned (.bool true) ∧ Only [] w w' := by
  have HLa := hid ha.len
  have HLb := hid hb.len
  have HJ := hid (F_join la lb ha.wf hb.wf (by rw [ha.len]; omega))
  go_enter Try.func4, Try.ntmps4
  go_wp2_with fail
  refine (join1 _ _ _).mono ?_
  rintro e w' ⟨rfl, hw⟩
  have hw2 := hw.symm; subst hw2; clear hw
  go_wp2_with fail
  refine (join2 _ _ _).mono ?_
  rintro e w' ⟨rfl, hw⟩
  have hw2 := hw.symm; subst hw2; clear hw
  have H7 : Hid (Own .u8 5 ((w).alloc (.cells #[] 5)) w.heap.size (.slice (some ⟨w.heap.size, 0, none⟩) 0 0) []) := hid (Own.lit .u8 _ (w) w.heap.size [] _ 0 rfl rfl (Nat.le_refl _) (by decide) (by simp))
  go_wp2_with (at_builtin; refine wpList_app _ rfl (.tmp 31) (.tmp 32) _ rfl elemB (w.heap.size) _ [] rfl ?c1 A n c la rfl ?c2 ?c3 ?c4 ?c5 ?c6 ?_)
  case c1 => exact H7.out
  case c2 => exact (ha).alloc _
  case c3 => exact hca
  case c4 => skip; simp; omega
  case c5 => skip; unfold maxLen; simp; omega
  case c6 => simp
  intro va7 wa7 hv hg _
  have V7 : Hid (Own .u8 5 wa7 (w.heap.size) va7 la) := hid hv
  have K7 : Hid (Only [] (w) wa7) := hid (((Only.refl [] (w)).alloc _).of_grown hg (by intro k hk; simp [Value.ownBlock] at hk; exact .inr (by subst hk; exact Nat.le_refl _)))
  have sa7 : (w.heap.size) ≤ wa7.heap.size := K7.out.size
  clear hv hg
  go_wp2_with (at_builtin; refine wpList_app _ rfl (.tmp 33) (.tmp 34) _ rfl elemB (w.heap.size) va7 la rfl ?c1 B m d lb rfl ?c2 ?c3 ?c4 ?c5 ?c6 ?_)
  case c1 => exact V7.out
  case c2 => exact (hb).only_nil K7.out
  case c3 => exact hcb
  case c4 => rw [HLa.out]; omega
  case c5 => rw [HLa.out]; unfold maxLen; omega
  case c6 => exact sa7
  intro vb7 w7 hv hg _
  have J7 : Hid (Only [] (w) w7) := hid (K7.out.of_grown hg (fun k hk => .inr (V7.out.lt k hk).1))
  have O7 : Hid (Own .u8 5 w7 (w.heap.size) vb7 _) := hid hv
  have Q7 : Hid (Only [] w w7) := hid ((Only.refl [] w).trans J7.out)
  obtain ⟨A7, cap7, ev7, hcap7, hmx7, hr7, hbk7⟩ := hv.slice
  have R7 := hid hr7
  have B7 := hid hbk7
  clear hv hg hr7 hbk7
  simp only [List.length_append, HLa.out, HLb.out] at ev7 hcap7
  have R7' : Hid (Rd .u8 w7 A7 (n + m) (la ++ lb)) := hid (by have := R7.out; rwa [List.length_append, HLa.out, HLb.out] at this)
  subst ev7
  go_wp2_with fail
  refine (part _ _ _ _ _ R7'.out (by omega)).mono ?_
  rintro e x1 ⟨rfl, m1, rfl⟩
  go_wp2_with fail
  refine (part _ _ _ _ _ (((ha).only_nil J7.out).drewN _) (by omega)).mono ?_
  rintro e x2 ⟨rfl, m2, rfl⟩
  go_wp2_with fail
  refine (part _ _ _ _ _ (((hb).only_nil J7.out).drewN _) (by omega)).mono ?_
  rintro e x3 ⟨rfl, m3, rfl⟩
  go_wp2_with fail
  refine (join1 _ _ _).mono ?_
  rintro e x4 ⟨rfl, rfl⟩
  rw [HJ.out]
  go_wp2_with fail
  refine (known _).mono ?_
  rintro e x5 ⟨rfl, o5⟩
  have O5 := hid o5; clear o5
  go_wp2
  go_ret
  exact ⟨rfl, (Q7.out.drewN _).trans O5.out⟩
set_option maxHeartbeats 2000000 in
theorem joinsOdd (w : World) (A B : Option Addr) (n m c d : Nat) (x y : Int) (la lb : List Int) (ha : Rd .u8 w A n la) (hb : Rd .u8 w B m lb) (hca : A = none → c = 0) (hcb : B = none → d = 0) (h : ¬ 4000 < n + m) (he : (n : Int) % 2 = 1) :
    Calls Try.prog 4 #[.slice A n c, .slice B m d, .int .i64 x, .int .i64 y] w fun e w' => e = .returned (.bool true) ∧ Only [] w w' := by
  have HLa0 := hid ha.len
  have HLb := hid hb.len
  have HJ := hid (F_join (la ++ [0]) lb (by intro z hz; rcases List.mem_append.1 hz with h | h; exact ha.wf z h; simp at h; subst h; rfl) hb.wf (by rw [List.length_append, ha.len]; simp; omega))
  go_enter Try.func4, Try.ntmps4
  go_wp2_with fail
  refine (join1 _ _ _).mono ?_
  rintro e w' ⟨rfl, hw⟩
  have hw2 := hw.symm; subst hw2; clear hw
  go_wp2_with fail
  refine (join2 _ _ _).mono ?_
  rintro e w' ⟨rfl, hw⟩
  have hw2 := hw.symm; subst hw2; clear hw
  have H8 : Hid (Own .u8 5 ((w).alloc (.cells #[] 5)) w.heap.size (.slice (some ⟨w.heap.size, 0, none⟩) 0 0) []) := hid (Own.lit .u8 _ (w) w.heap.size [] _ 0 rfl rfl (Nat.le_refl _) (by decide) (by simp))
  go_wp2_with (at_builtin; refine wpList_app _ rfl (.tmp 26) (.tmp 27) _ rfl elemB (w.heap.size) _ [] rfl ?c1 A n c la rfl ?c2 ?c3 ?c4 ?c5 ?c6 ?_)
  case c1 => exact H8.out
  case c2 => exact (ha).alloc _
  case c3 => exact hca
  case c4 => skip; simp; omega
  case c5 => skip; unfold maxLen; simp; omega
  case c6 => simp
  intro va8 wa8 hv hg _
  have V8 : Hid (Own .u8 5 wa8 (w.heap.size) va8 la) := hid hv
  have K8 : Hid (Only [] (w) wa8) := hid (((Only.refl [] (w)).alloc _).of_grown hg (by intro k hk; simp [Value.ownBlock] at hk; exact .inr (by subst hk; exact Nat.le_refl _)))
  have sa8 : (w.heap.size) ≤ wa8.heap.size := K8.out.size
  clear hv hg
  go_wp2_with (at_builtin; refine wpList_app _ rfl (.tmp 28) (.tmp 29) _ rfl elemB (w.heap.size) va8 la rfl ?c1 (some ⟨wa8.heap.size, 0, none⟩) 1 1 [0] rfl ?c2 ?c3 ?c4 ?c5 ?c6 ?_)
  case c1 => exact V8.out.alloc _
  case c2 => exact (Own.lit .u8 5 wa8 (w.heap.size) [0] _ 1 rfl rfl sa8 (by simp [maxLen]) (by decide)).rd
  case c3 => simp
  case c4 => rw [HLa0.out]; omega
  case c5 => rw [HLa0.out]; unfold maxLen; omega
  case c6 => simp; omega
  intro vb8 w8 hv hg _
  have J8 : Hid (Only [] (w) w8) := hid ((K8.out.alloc _).of_grown hg (fun k hk => .inr (V8.out.lt k hk).1))
  have O8 : Hid (Own .u8 5 w8 (w.heap.size) vb8 _) := hid hv
  have Q8 : Hid (Only [] w w8) := hid ((Only.refl [] w).trans J8.out)
  obtain ⟨A8, cap8, ev8, hcap8, hmx8, hr8, hbk8⟩ := hv.slice
  have R8 := hid hr8
  have B8 := hid hbk8
  clear hv hg hr8 hbk8
  simp only [List.length_append, HLa0.out, List.length_cons, List.length_nil, Nat.zero_add] at ev8 hcap8
  have HA' : Hid (Rd .u8 w8 A8 (n + 1) (la ++ [0])) := hid (by have := R8.out; rwa [List.length_append, HLa0.out] at this)
  have HLa : Hid ((la ++ [0]).length = n + 1) := hid HA'.out.len
  subst ev8
  obtain ⟨g8, off8, rfl, _, _⟩ := HA'.out.at_ (by omega)
  clear R8 O8
  generalize hq : la ++ [0] = lq at *
  clear hq
  have H7 : Hid (Own .u8 5 ((w8).alloc (.cells #[] 5)) w8.heap.size (.slice (some ⟨w8.heap.size, 0, none⟩) 0 0) []) := hid (Own.lit .u8 _ (w8) w8.heap.size [] _ 0 rfl rfl (Nat.le_refl _) (by decide) (by simp))
  go_wp2_with (at_builtin; refine wpList_app _ rfl (.tmp 31) (.tmp 32) _ rfl elemB (w8.heap.size) _ [] rfl ?c1 (some ⟨g8, off8, none⟩) (n + 1) cap8 lq rfl ?c2 ?c3 ?c4 ?c5 ?c6 ?_)
  case c1 => exact H7.out
  case c2 => exact (HA'.out).alloc _
  case c3 => simp
  case c4 => skip; simp; omega
  case c5 => skip; unfold maxLen; simp; omega
  case c6 => simp
  intro va7 wa7 hv hg _
  have V7 : Hid (Own .u8 5 wa7 (w8.heap.size) va7 lq) := hid hv
  have K7 : Hid (Only [] (w8) wa7) := hid (((Only.refl [] (w8)).alloc _).of_grown hg (by intro k hk; simp [Value.ownBlock] at hk; exact .inr (by subst hk; exact Nat.le_refl _)))
  have sa7 : (w8.heap.size) ≤ wa7.heap.size := K7.out.size
  clear hv hg
  go_wp2_with (at_builtin; refine wpList_app _ rfl (.tmp 33) (.tmp 34) _ rfl elemB (w8.heap.size) va7 lq rfl ?c1 B m d lb rfl ?c2 ?c3 ?c4 ?c5 ?c6 ?_)
  case c1 => exact V7.out
  case c2 => exact ((hb.only_nil J8.out)).only_nil K7.out
  case c3 => exact hcb
  case c4 => rw [HLa.out]; omega
  case c5 => rw [HLa.out]; unfold maxLen; omega
  case c6 => exact sa7
  intro vb7 w7 hv hg _
  have J7 : Hid (Only [] (w8) w7) := hid (K7.out.of_grown hg (fun k hk => .inr (V7.out.lt k hk).1))
  have O7 : Hid (Own .u8 5 w7 (w8.heap.size) vb7 _) := hid hv
  have Q7 : Hid (Only [] w w7) := hid ((Q8.out).trans J7.out)
  obtain ⟨A7, cap7, ev7, hcap7, hmx7, hr7, hbk7⟩ := hv.slice
  have R7 := hid hr7
  have B7 := hid hbk7
  clear hv hg hr7 hbk7
  simp only [List.length_append, HLa.out, HLb.out] at ev7 hcap7
  have R7' : Hid (Rd .u8 w7 A7 ((n + 1) + m) (lq ++ lb)) := hid (by have := R7.out; rwa [List.length_append, HLa.out, HLb.out] at this)
  subst ev7
  go_wp2_with fail
  refine (part _ _ _ _ _ R7'.out (by omega)).mono ?_
  rintro e x1 ⟨rfl, m1, rfl⟩
  go_wp2_with fail
  refine (part _ _ _ _ _ (((HA'.out).only_nil J7.out).drewN _) (by omega)).mono ?_
  rintro e x2 ⟨rfl, m2, rfl⟩
  go_wp2_with fail
  refine (part _ _ _ _ _ ((((hb.only_nil J8.out)).only_nil J7.out).drewN _) (by omega)).mono ?_
  rintro e x3 ⟨rfl, m3, rfl⟩
  go_wp2_with fail
  refine (join1 _ _ _).mono ?_
  rintro e x4 ⟨rfl, rfl⟩
  rw [HJ.out]
  go_wp2_with fail
  refine (known _).mono ?_
  rintro e x5 ⟨rfl, o5⟩
  have O5 := hid o5; clear o5
  go_wp2
  go_ret
  exact ⟨rfl, (Q7.out.drewN _).trans O5.out⟩
theorem joins (w : World) (A B : Option Addr) (n m c d : Nat) (x y : Int) (la lb : List Int) (ha : Rd .u8 w A n la) (hb : Rd .u8 w B m lb) (hca : A = none → c = 0) (hcb : B = none → d = 0) (hn : n ≤ 4611686018427387903) (hm : m ≤ 4611686018427387903) :
    Calls Try.prog 4 #[.slice A n c, .slice B m d, .int .i64 x, .int .i64 y] w fun e w' => e = .returned (.bool true) ∧ Only [] w w' := by
  by_cases h : 4000 < n + m
  · exact joinsOut w A B n m c d x y h hn hm
  · by_cases he : (n : Int) % 2 = 0
    · exact joinsEven w A B n m c d x y la lb ha hb hca hcb h he
    · exact joinsOdd w A B n m c d x y la lb ha hb hca hcb h (by omega)
end Go.Proofs.Ytoogifoopafghaa.oct
