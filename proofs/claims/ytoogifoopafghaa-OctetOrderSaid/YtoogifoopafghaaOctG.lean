/-
  Chapter 1 (octet): the sums, by a walk of each text, part G. Conditions: none but those typed.
-/
import Derived.Test.YtoogifoopafghaaOctF
import Derived.Deep.RegionLaw
namespace Go.Proofs.Ytoogifoopafghaa.oct
set_option linter.unusedVariables false
set_option linter.unusedSimpArgs false
open Go.ChangeShapes Go.WideShapes Go.ChangeAt Go.RowKit Go.IntWalk Go.Lib
/-- A row turned round word by word. -/
def revw : List Int → List Int
  | a :: b :: r => revw r ++ [a, b]
  | [a] => [a]
  | [] => []
theorem revw_len : ∀ (l : List Int), (revw l).length = l.length
  | [] => rfl
  | [a] => rfl
  | a :: b :: r => by simp [revw, revw_len r]
theorem revw_mem : ∀ (l : List Int) (z : Int), z ∈ revw l → z ∈ l
  | [], z, h => h
  | [a], z, h => h
  | a :: b :: r, z, h => by
    simp only [revw, List.mem_append, List.mem_cons, List.not_mem_nil, or_false] at h
    rcases h with h | h | h
    · simp [revw_mem r z h]
    · simp [h]
    · simp [h]
theorem ws_revw : ∀ (l : List Int), l.length % 2 = 0 → ws (revw l) = ws l
  | [], _ => rfl
  | [a], _ => rfl
  | a :: b :: r, h => by
    have hr : r.length % 2 = 0 := by simp at h; omega
    have := ws_app (revw r) [a, b] (by rw [revw_len]; exact hr)
    simp only [revw, this, ws_revw r hr, ws]
    omega
theorem drop_two (l : List Int) (i : Nat) (h : i + 1 < l.length) : l.drop i = l.getD i 0 :: l.getD (i + 1) 0 :: l.drop (i + 2) := by
  rw [List.drop_eq_getElem_cons (by omega), List.drop_eq_getElem_cons (show i + 1 < l.length from h)]
  simp [List.getD_eq_getElem?_getD, h, show i < l.length from by omega]
theorem orderOut (w : World) (A B : Option Addr) (n m c d : Nat) (h : 4000 < n + m ∨ (n : Int) % 2 = 1 ∨ (m : Int) % 2 = 1) (hn : n ≤ 4611686018427387903) (hm : m ≤ 4611686018427387903) : Calls Try.prog 11 #[.slice A n c, .slice B m d] w fun e w' => e = .returned (.bool true) ∧ Only [] w w' := by
  by_cases h1 : 4000 < n + m
  · go_enter Try.func11, Try.ntmps11
    go_wp2
    go_ret
    exact ⟨rfl, Only.refl _ _⟩
  by_cases h2 : (n : Int) % 2 = 1
  · go_enter Try.func11, Try.ntmps11
    go_wp2
    go_ret
    exact ⟨rfl, Only.refl _ _⟩
  · have h3 : (n : Int) % 2 = 0 := by omega
    have h4 : (m : Int) % 2 = 1 := by omega
    go_enter Try.func11, Try.ntmps11
    go_wp2
    go_ret
    exact ⟨rfl, Only.refl _ _⟩
set_option maxHeartbeats 20000000 in
theorem orderIn (w : World) (A B : Option Addr) (n m c d : Nat) (la lb : List Int) (ha : Rd .u8 w A n la) (hb : Rd .u8 w B m lb) (hca : A = none → c = 0) (hcb : B = none → d = 0) (h : ¬ 4000 < n + m) (hen : (n : Int) % 2 = 0) (hem : (m : Int) % 2 = 0) :
    Calls Try.prog 11 #[.slice A n c, .slice B m d] w fun e w' => e = .returned (.bool true) ∧ Only [] w w' := by
  have HLa := hid ha.len
  have HLb := hid hb.len
  have HW1 : Hid (sumF (lb ++ la) = sumF (la ++ lb)) := hid (by unfold sumF; rw [ws_app la lb (by rw [ha.len]; omega), ws_app lb la (by rw [hb.len]; omega), Int.add_comm])
  have HEv : Hid ((la ++ lb).length % 2 = 0) := hid (by rw [List.length_append, ha.len, hb.len]; omega)
  have HWf : Hid (∀ z ∈ la ++ lb, (Lit.int .u8 z).wf = true) := hid (by intro z hz; rcases List.mem_append.1 hz with h | h; exact ha.wf z h; exact hb.wf z h)
  go_enter Try.func11, Try.ntmps11
  have H7 : Hid (Own .u8 5 ((w).alloc (.cells #[] 5)) w.heap.size (.slice (some ⟨w.heap.size, 0, none⟩) 0 0) []) := hid (Own.lit .u8 _ (w) w.heap.size [] _ 0 rfl rfl (Nat.le_refl _) (by decide) (by simp))
  go_wp2_with (at_builtin; refine wpList_app _ rfl (.tmp 26) (.tmp 27) _ rfl elemB (w.heap.size) _ [] rfl ?c1 A n c la rfl ?c2 ?c3 ?c4 ?c5 ?c6 ?_)
  case c1 => exact H7.out
  case c2 => exact (ha).alloc _
  case c3 => exact hca
  case c4 => skip; simp; omega
  case c5 => skip; unfold maxLen; simp; omega
  case c6 => simp
  intro va7 wa7 hv hg _
  have V7 : Hid (Own .u8 5 wa7 (w.heap.size) va7 la) := hid hv
  have K7 : Hid (Only [] (w) wa7) := hid (((Only.refl [] (w)).alloc _).of_grown hg (by intro k hk; simp [Value.ownBlock] at hk; exact .inr (by subst hk; exact Nat.le_refl _)))
  have sa7 : (w.heap.size) ≤ wa7.heap.size := K7.out.size
  clear hv hg
  go_wp2_with (at_builtin; refine wpList_app _ rfl (.tmp 28) (.tmp 29) _ rfl elemB (w.heap.size) va7 la rfl ?c1 B m d lb rfl ?c2 ?c3 ?c4 ?c5 ?c6 ?_)
  case c1 => exact V7.out
  case c2 => exact (hb).only_nil K7.out
  case c3 => exact hcb
  case c4 => rw [HLa.out]; omega
  case c5 => rw [HLa.out]; unfold maxLen; omega
  case c6 => exact sa7
  intro vb7 w7 hv hg _
  have J7 : Hid (Only [] (w) w7) := hid (K7.out.of_grown hg (fun k hk => .inr (V7.out.lt k hk).1))
  have O7 : Hid (Own .u8 5 w7 (w.heap.size) vb7 _) := hid hv
  have Q7 : Hid (Only [] w w7) := hid ((Only.refl [] w).trans J7.out)
  obtain ⟨A7, cap7, ev7, hcap7, hmx7, hr7, hbk7⟩ := hv.slice
  have R7 := hid hr7
  have B7 := hid hbk7
  clear hv hg hr7 hbk7
  simp only [List.length_append, HLa.out, HLb.out] at ev7 hcap7
  have HR : Hid (Rd .u8 w7 A7 (n + m) (la ++ lb)) := hid (by have := R7.out; rwa [List.length_append, HLa.out, HLb.out] at this)
  have HLab : Hid ((la ++ lb).length = n + m) := hid HR.out.len
  subst ev7
  clear R7 O7
  generalize hq : la ++ lb = lq at *
  clear hq
  go_wp2_with fail
  go_loopw [6, 7] (fun v i wr => ∃ (k : Nat), k ≤ n + m ∧ k % 2 = 0 ∧ i = .int .i64 ((k : Int) - 2) ∧ Hid (Own .u8 5 wr w7.heap.size v (revw (lq.drop k))) ∧ Hid (Only [] w7 wr)) (fun _ i _ => ((intOf i) + 2).toNat)
  case atStart => exact ⟨n + m, by omega, by omega, by first | rfl | (congr 1; omega) | (congr 1), hid (by rw [List.drop_of_length_le (by rw [HLab.out]; exact Nat.le_refl _)]; exact Own.nil _ _ _ _), hid (Only.refl _ _)⟩
  case round =>
    obtain ⟨k, hk, hke, rfl, HO, HG⟩ := hrel
    by_cases hlt : 2 ≤ k
    · obtain ⟨q, rfl⟩ : ∃ q, k = q + 2 := ⟨k - 2, by omega⟩
      rw [show ((q + 2 : Nat) : Int) - 2 = (q : Int) from by omega]
      obtain ⟨g, off, rfl, hgl, hcell⟩ := HR.out.at_ (by omega)
      have c0 : wr.cell? ⟨g, off + q, none⟩ = some (.int .u8 (lq.getD q 0)) := (HG.out.cell (p := ⟨g, off + q, none⟩) hgl (by simp)).trans (hcell q (by omega))
      have c1 : wr.cell? ⟨g, off + (q + 1), none⟩ = some (.int .u8 (lq.getD (q + 1) 0)) := (HG.out.cell (p := ⟨g, off + (q + 1), none⟩) hgl (by simp)).trans (hcell (q + 1) (by omega))
      have w0 := HR.out.getD_wf q (by omega)
      have w1 := HR.out.getD_wf (q + 1) (by omega)
      have HD := hid (drop_two lq q (by rw [HLab.out]; omega))
      have hlen : (revw (lq.drop (q + 2))).length = n + m - (q + 2) := by rw [revw_len, List.length_drop, HLab.out]
      have HLr := hid hlen; clear hlen hcell
      generalize lq.getD q 0 = x at *
      generalize lq.getD (q + 1) 0 = y at *
      have HW2 : Hid (∀ z ∈ [x, y], (Lit.int .u8 z).wf = true) := hid (by intro z hz; simp at hz; rcases hz with rfl | rfl; exact w0; exact w1)
      clear w0 w1
      have sg := HG.out.size
      have A1 : Hid (((revw (lq.drop (q + 2))).length + 2) * 1 ≤ 140737488355328) := hid (by rw [HLr.out]; omega)
      have A2 : Hid ((revw (lq.drop (q + 2))).length + 2 ≤ maxLen) := hid (by rw [HLr.out]; unfold maxLen; omega)
      have z1 : (q : Int) < (n : Int) + m := by omega
      have z2 : (q : Int) + 1 < (n : Int) + m := by omega
      have z3 : 0 ≤ (q : Int) + 1 := by omega
      have z4 : ((q : Int) + 1).toNat = q + 1 := by omega
      have z5 : IntKind.i64.wrap ((q : Int) + 1) = (q : Int) + 1 := by rw [i64_left]; exact wrap64_in _ (by omega)
      go_wp2_with fail
      go_region_law (first | (refine step_app _ rfl (.tmp 38) (.tmp 48) _ rfl elemB w7.heap.size _ (revw (lq.drop (q + 2))) rfl ?c1 (some ⟨wr.heap.size, 0, none⟩) 2 2 [x, y] rfl ?c2 (by simp) A1.out A2.out (Nat.le_trans sg (by simp)) ?_; (case c1 => exact (HO.out.drew).alloc _); (case c2 => exact (Own.lit .u8 5 wr.drew w7.heap.size [x, y] _ 2 rfl rfl sg (by simp [maxLen]) HW2.out).rd); intro v' w' hv hg _; have HO2 := hid hv; have HG2 : Hid (Only [] w7 w') := hid (((HG.out.drew).alloc _).of_grown hg (fun k hk => .inr (HO.out.lt k hk).1)); clear hv hg))
      all_goals
        clear z1 z2 z3 z4 z5 c0 c1
        go_wp2
        go_roundw
        case rel => exact ⟨q, by omega, by omega, rfl, hid (by have := HO2.out; rw [HD.out]; exact this), HG2⟩
        case measure => simp [intOf]; omega
    · obtain rfl : k = 0 := by omega
      have HOz := HO.out
      rw [List.drop_zero] at HOz
      obtain ⟨A6, cap6, ev6, _, _, hr6, _⟩ := HOz.slice
      rw [revw_len, HLab.out] at ev6 hr6
      have HR6 := hid hr6
      clear HO HOz hr6
      subst ev6
      have HSR : Hid (sumF (revw lq) = sumF lq) := hid (by unfold sumF; rw [ws_revw lq HEv.out])
      have HQ := hid (Q7.out.trans HG.out)
      go_wp2_with fail
      refine (sum1 wr _ _ _ _ (HR.out.only_nil HG.out) (by omega)).mono ?_
      rintro e x1 ⟨rfl, m1, rfl⟩
      have H9 : Hid (Own .u8 5 ((wr.drewN m1).alloc (.cells #[] 5)) wr.heap.size (.slice (some ⟨wr.heap.size, 0, none⟩) 0 0) []) := hid (Own.lit .u8 _ (wr.drewN m1) wr.heap.size [] _ 0 rfl rfl (Nat.le_refl _) (by decide) (by simp))
      go_wp2_with (at_builtin; refine wpList_app _ rfl (.tmp 52) (.tmp 53) _ rfl elemB (wr.heap.size) _ [] rfl ?c1 B m d lb rfl ?c2 ?c3 ?c4 ?c5 ?c6 ?_)
      case c1 => exact H9.out
      case c2 => exact ((hb.only_nil HQ.out).drewN m1).alloc _
      case c3 => exact hcb
      case c4 => skip; simp; omega
      case c5 => skip; unfold maxLen; simp; omega
      case c6 => simp
      intro va9 wa9 hv hg _
      have V9 : Hid (Own .u8 5 wa9 (wr.heap.size) va9 lb) := hid hv
      have K9 : Hid (Only [] (wr.drewN m1) wa9) := hid (((Only.refl [] (wr.drewN m1)).alloc _).of_grown hg (by intro k hk; simp [Value.ownBlock] at hk; exact .inr (by subst hk; exact Nat.le_refl _)))
      have sa9 : (wr.heap.size) ≤ wa9.heap.size := K9.out.size
      clear hv hg
      go_wp2_with (at_builtin; refine wpList_app _ rfl (.tmp 54) (.tmp 55) _ rfl elemB (wr.heap.size) va9 lb rfl ?c1 A n c la rfl ?c2 ?c3 ?c4 ?c5 ?c6 ?_)
      case c1 => exact V9.out
      case c2 => exact ((ha.only_nil HQ.out).drewN m1).only_nil K9.out
      case c3 => exact hca
      case c4 => rw [HLb.out]; omega
      case c5 => rw [HLb.out]; unfold maxLen; omega
      case c6 => exact sa9
      intro vb9 w9 hv hg _
      have J9 : Hid (Only [] (wr.drewN m1) w9) := hid (K9.out.of_grown hg (fun k hk => .inr (V9.out.lt k hk).1))
      have O9 : Hid (Own .u8 5 w9 (wr.heap.size) vb9 _) := hid hv
      have Q9 : Hid (Only [] w w9) := hid ((HQ.out.drewN m1).trans J9.out)
      obtain ⟨A9, cap9, ev9, hcap9, hmx9, hr9, hbk9⟩ := hv.slice
      have R9 := hid hr9
      have B9 := hid hbk9
      clear hv hg hr9 hbk9
      simp only [List.length_append, HLa.out, HLb.out] at ev9 hcap9
      have HR9 : Hid (Rd .u8 w9 A9 (m + n) (lb ++ la)) := hid (by have := R9.out; rwa [List.length_append, HLa.out, HLb.out] at this)
      subst ev9
      clear R9 O9
      generalize hq9 : lb ++ la = lq9 at *
      clear hq9
      go_wp2_with fail
      refine (sum1 _ _ _ _ _ HR9.out (by omega)).mono ?_
      rintro e x2 ⟨rfl, m2, rfl⟩
      rw [HW1.out]
      go_wp2_with fail
      refine (sum1 _ _ _ _ _ ((((HR.out.only_nil HG.out).drewN m1).only_nil J9.out).drewN _) (by omega)).mono ?_
      rintro e x3 ⟨rfl, m3, rfl⟩
      go_wp2_with fail
      refine (sum1 _ _ _ _ _ (((HR6.out.drewN m1).only_nil J9.out).drewN _) (by omega)).mono ?_
      rintro e x4 ⟨rfl, m4, rfl⟩
      rw [HSR.out]
      go_wp2_with fail
      refine (known _).mono ?_
      rintro e x5 ⟨rfl, o5⟩
      have O5 := hid o5; clear o5
      go_wp2
      go_ret
      exact ⟨rfl, (Q9.out.drewN _).trans O5.out⟩
theorem order (w : World) (A B : Option Addr) (n m c d : Nat) (la lb : List Int) (ha : Rd .u8 w A n la) (hb : Rd .u8 w B m lb) (hca : A = none → c = 0) (hcb : B = none → d = 0) (hn : n ≤ 4611686018427387903) (hm : m ≤ 4611686018427387903) :
    Calls Try.prog 11 #[.slice A n c, .slice B m d] w fun e w' => e = .returned (.bool true) ∧ Only [] w w' := by
  by_cases h : 4000 < n + m ∨ (n : Int) % 2 = 1 ∨ (m : Int) % 2 = 1
  · exact orderOut w A B n m c d h hn hm
  · exact orderIn w A B n m c d la lb ha hb hca hcb (by omega) (by omega) (by omega)
end Go.Proofs.Ytoogifoopafghaa.oct
