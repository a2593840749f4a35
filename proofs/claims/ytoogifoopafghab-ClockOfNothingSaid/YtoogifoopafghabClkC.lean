/-
  Chapter 15 (clock): the laws of the program's own clock (it settles, it doubles; a nil clock). Conditions: none but those typed.
-/
import Derived.Test.YtoogifoopafghabClkB
namespace Go.Proofs.Ytoogifoopafghab.clk
set_option linter.unusedVariables false
set_option linter.unusedSimpArgs false
open Go.ChangeShapes Go.WideShapes Go.ChangeAt Go.RowKit Go.IntWalk Go.Lib
theorem known (w : World) : Calls Try.prog 32 #[] w fun e w' => e = .returned (.bool true) ∧ Only [] w w' := by
  go_enter Try.func32, Try.ntmps32
  go_wp2_with fail
  have o0 : Clk (w.alloc (.cells #[.bool false, .int .i64 0, .int .i64 0, .int .i64 0] 42)) w.heap.size false 0 0 (0 : Nat) := Ob.new _ _ _
  have H0 := hid o0; clear o0
  refine (wait1 w.heap.size _ false 0 0 0 H0.out (by omega) (by omega) (by omega)).mono ?_
  rintro e w1 ⟨rfl, n1, rfl⟩
  have q1 : wt (base false 0 0) 0 = 30 := by decide
  rw [q1]
  go_wp2_with fail
  refine (sample_no w.heap.size _ 20 0 0 (0 : Nat) (H0.out.drewN n1)).mono ?_
  rintro e w2 ⟨rfl, o2, h2⟩
  have q2 : smF false 0 20 = 160 := by decide
  have q3 : vaF false 0 0 20 = 40 := by decide
  rw [q2, q3] at h2
  have O2 := hid o2; have H2 := hid h2; clear o2 h2 q1 q2 q3
  go_wp2_with fail
  refine (wait1 w.heap.size _ true 160 40 0 H2.out (by omega) (by omega) (by omega)).mono ?_
  rintro e w3 ⟨rfl, n3, rfl⟩
  have q1 : wt (base true 160 40) 0 = 60 := by decide
  rw [q1]
  clear q1
  go_wp2_with fail
  refine (back1 w.heap.size _ true 160 40 0 (H2.out.drewN n3) (by omega) (by omega) (by omega)).mono ?_
  rintro e w4 ⟨rfl, o4, h4⟩
  have q1 : backF (base true 160 40) 0 = 1 := by decide
  rw [q1] at h4
  have O4 := hid o4; have H4 := hid h4; clear o4 h4 q1
  go_wp2_with fail
  refine (wait1 w.heap.size _ true 160 40 1 H4.out (by omega) (by omega) (by omega)).mono ?_
  rintro e w5 ⟨rfl, n5, rfl⟩
  have q1 : wt (base true 160 40) 1 = 120 := by decide
  rw [q1]
  clear q1
  go_wp2
  go_ret
  have hn : ∀ i, i ∈ [w.heap.size] → i ∈ ([] : List Nat) ∨ w.heap.size ≤ i := by simp
  exact ⟨rfl, (((((Only.refl [] w).alloc _).drewN n1).fresh O2.out hn).drewN n3 |>.fresh O4.out hn).drewN n5⟩
theorem sample_nil (n : Int) (w : World) : Calls Try.prog 23 #[.pointer none, .int .i64 n] w fun e w' => e = .returned (.tuple #[]) ∧ w' = w := by
  go_enter Try.func23, Try.ntmps23
  go_wp2
  refine bodyPost_ret (results_none rfl _ _ _) rfl ?_
  exact ⟨rfl, rfl⟩
theorem back_nil (w : World) : Calls Try.prog 25 #[.pointer none] w fun e w' => e = .returned (.tuple #[]) ∧ w' = w := by
  go_enter Try.func25, Try.ntmps25
  go_wp2
  first
    | exact bodyPost_ret (results_none rfl _ _ _) rfl ⟨rfl, rfl⟩
    | exact bodyPost_end (results_none rfl _ _ _) rfl ⟨rfl, rfl⟩
theorem calm_nil (w : World) : Calls Try.prog 27 #[.pointer none] w fun e w' => e = .returned (.tuple #[]) ∧ w' = w := by
  go_enter Try.func27, Try.ntmps27
  go_wp2
  first
    | exact bodyPost_ret (results_none rfl _ _ _) rfl ⟨rfl, rfl⟩
    | exact bodyPost_end (results_none rfl _ _ _) rfl ⟨rfl, rfl⟩
theorem wait_nil (w : World) : Calls Try.prog 30 #[.pointer none] w fun e w' => e = .returned (.int .i64 30) ∧ w' = w := by
  go_enter Try.func30, Try.ntmps30
  go_wp2
  go_ret
  exact ⟨rfl, rfl⟩
theorem seen_nil (w : World) : Calls Try.prog 29 #[.pointer none] w fun e w' => e = .returned (.tuple #[.int .i64 0, .int .i64 0]) ∧ w' = w := by
  go_enter Try.func29, Try.ntmps29
  go_wp2
  go_ret2
  exact ⟨rfl, rfl⟩
theorem nilLaw (n : Int) (w : World) : Calls Try.prog 9 #[.int .i64 n] w fun e w' => e = .returned (.bool true) ∧ Only [] w w' := by
  go_enter Try.func9, Try.ntmps9
  go_wp2_with (first | (go_at_call 23; refine (sample_nil _ _).mono ?_; rintro e w' ⟨rfl, rfl⟩) | (go_at_call 25; refine (back_nil _).mono ?_; rintro e w' ⟨rfl, rfl⟩) | (go_at_call 27; refine (calm_nil _).mono ?_; rintro e w' ⟨rfl, rfl⟩) | (go_at_call 29; refine (seen_nil _).mono ?_; rintro e w' ⟨rfl, rfl⟩) | (go_at_call 30; refine (wait_nil _).mono ?_; rintro e w' ⟨rfl, rfl⟩) | (go_at_call 32; refine (known _).mono ?_; rintro e w2 ⟨rfl, hk⟩))
  go_ret
  exact ⟨rfl, by assumption⟩
theorem sample1 (g : Nat) (w : World) (s : Bool) (t sm va db : Int) (h : Clk w g s sm va db) (hs : 0 ≤ sm ∧ sm ≤ 8388608) (hv : 0 ≤ va ∧ va ≤ 8388608) :
   Calls Try.prog 23 #[.pointer (some ⟨g, 0, none⟩), .int .i64 t] w fun e w' => e = .returned (.tuple #[]) ∧ Only [g] w w' ∧ Clk w' g true (smF s sm t) (vaF s sm va t) 0 := by
  cases s
  · exact sample_no g w t sm va db h
  · exact sample_yes g w t sm va db h hs hv
theorem smF_bd (s : Bool) (sm t : Int) (hs : 0 ≤ sm ∧ sm ≤ 8388608) : 0 ≤ smF s sm t ∧ smF s sm t ≤ 8388608 := by
  have := clip_bd t; unfold smF; cases s <;> simp <;> omega
theorem vaF_bd (s : Bool) (sm va t : Int) (hs : 0 ≤ sm ∧ sm ≤ 8388608) (hv : 0 ≤ va ∧ va ≤ 8388608) : 0 ≤ vaF s sm va t ∧ vaF s sm va t ≤ 8388608 := by
  have := clip_bd t; unfold vaF; cases s <;> simp <;> omega
def vv (r : Int) : Nat → Int
  | 0 => 0
  | 1 => 2 * r
  | n + 2 => vv r (n + 1) - vv r (n + 1) / 4
theorem vv_le (r r' : Int) (h : 0 ≤ r) (h' : r ≤ r') : ∀ n, 0 ≤ vv r n ∧ vv r n ≤ vv r' n
  | 0 => by simp [vv]
  | 1 => by simp only [vv]; omega
  | n + 2 => by have := vv_le r r' h h' (n + 1); simp only [vv]; omega
def ss (r : Int) (n : Nat) : Int := if n = 0 then 0 else 8 * r
theorem vv_bd (r : Int) (h : 1 ≤ r) (h' : r ≤ 1048576) : ∀ n, 0 ≤ vv r n ∧ vv r n ≤ 8388608
  | 0 => by simp [vv]
  | 1 => by simp only [vv]; omega
  | n + 2 => by have := vv_bd r h h' (n + 1); simp only [vv]; omega
theorem vv_end (r : Int) (h : 1 ≤ r) (h' : r ≤ 1048576) : 0 ≤ vv r 100 ∧ vv r 100 ≤ 3 := by
  have h1 := vv_le r 1048576 (by omega) h' 100
  have h2 : vv 1048576 100 ≤ 3 := by decide +kernel
  omega
theorem sampled (r : Int) (h : 1 ≤ r) (h' : r ≤ 1048576) (n : Nat) : smF (decide (0 < n)) (ss r n) r = ss r (n + 1) ∧ vaF (decide (0 < n)) (ss r n) (vv r n) r = vv r (n + 1) := by
  have hc : clip r = r := by unfold clip; omega
  cases n with
  | zero => simp [smF, vaF, ss, vv, hc]; omega
  | succ n =>
    have e : r - 8 * r / 8 = 0 := by omega
    simp [smF, vaF, ss, vv, hc, e]
    omega
set_option maxHeartbeats 800000 in
theorem settlesIn (r : Int) (w : World) (h : 1 ≤ r) (h' : r ≤ 1048576) : Calls Try.prog 7 #[.int .i64 r] w fun e w' => e = .returned (.bool true) ∧ Only [] w w' := by
  have HN : Hid (∀ i, i ∈ [w.heap.size] → i ∈ ([] : List Nat) ∨ w.heap.size ≤ i) := hid (by simp)
  have HB : Hid (∀ n, 0 ≤ vv r n ∧ vv r n ≤ 8388608) := hid (vv_bd r h h')
  have hSS : ∀ n, 0 ≤ ss r n ∧ ss r n ≤ 8388608 := by intro n; unfold ss; split <;> omega
  have HSS := hid hSS; clear hSS
  go_enter Try.func7, Try.ntmps7
  go_wp2_with fail
  go_loopw [4] (fun i wr => ∃ j : Nat, j ≤ 100 ∧ i = .int .i64 j ∧ Hid (Clk wr w.heap.size (decide (0 < j)) (ss r j) (vv r j) 0) ∧ Hid (Only [] w wr)) (fun i _ => 100 - (intOf i).toNat)
  case atStart => exact ⟨0, by omega, rfl, hid (Ob.new _ _ _), hid ((Only.refl _ _).alloc _)⟩
  case round =>
    obtain ⟨j, hj, rfl, HC, HO⟩ := hrel
    by_cases hlt : j < 100
    · go_wp2_with fail
      refine (sample1 w.heap.size _ _ r _ _ 0 HC.out (HSS.out j) (HB.out j)).mono ?_
      rintro e w2 ⟨rfl, o2, h2⟩
      rw [(sampled r h h' j).1, (sampled r h h' j).2] at h2
      have H2 := hid h2; have O2 := hid o2; clear o2 h2
      go_wp2
      go_roundw
      case rel => exact ⟨j + 1, by omega, by go_num, by simpa using H2, hid (HO.out.fresh O2.out HN.out)⟩
      case measure => simp [intOf]; omega
    · have hj' : j = 100 := by omega
      have hE : 0 ≤ vv r j ∧ vv r j ≤ 3 := by rw [hj']; exact vv_end r h h'
      have hS : ss r j = 8 * r := by rw [hj']; rfl
      have hD : decide (0 < j) = true := by simp; omega
      rw [hS, hD] at HC
      clear hj' hS hD
      generalize vv r j = v at *
      have hb : base true (8 * r) v ≤ max 10 (min 600 (r + 4)) := by unfold base; simp; omega
      have HBa := hid hb; clear hb
      go_wp2_with fail
      refine (seen1 w.heap.size _ _ _ _ _ HC.out).mono ?_
      rintro e w2 ⟨rfl, n2, rfl⟩
      go_wp2_with fail
      refine (wait1 w.heap.size _ true (8 * r) v 0 (HC.out.drewN _) (by omega) (by omega) (by omega)).mono ?_
      rintro e w3 ⟨rfl, n3, rfl⟩
      simp only [wt]
      have hb := HBa.out
      generalize base true (8 * r) v = b at *
      go_wp2_with fail
      all_goals
        refine (known _).mono ?_
        rintro e w4 ⟨rfl, o4⟩
        have O4 := hid o4; clear o4
        go_wp2
        go_ret
        exact ⟨rfl, (HO.out.drewN _).trans O4.out⟩
theorem wt_back (b : Int) (hb : 10 ≤ b ∧ b ≤ 600) (d i : Nat) (h : wt b d = wt b i) : wt b (backF b d) = wt b (i + 1) := by
  have hd := wt_bd b hb d
  unfold backF
  split
  · simp only [wt, h]
  · simp only [wt]; omega
theorem backF_le (b : Int) (d : Nat) : backF b d ≤ d + 1 := by unfold backF; split <;> omega
set_option maxHeartbeats 800000 in
theorem doublesIn (r n : Int) (w : World) (h : 0 ≤ n) (h' : n ≤ 100) : Calls Try.prog 8 #[.int .i64 r, .int .i64 n] w fun e w' => e = .returned (.bool true) ∧ Only [] w w' := by
  have HN : Hid (∀ i, i ∈ [w.heap.size] → i ∈ ([] : List Nat) ∨ w.heap.size ≤ i) := hid (by simp)
  go_enter Try.func8, Try.ntmps8
  go_wp2_with fail
  have h0 : Clk (w.alloc (.cells #[.bool false, .int .i64 0, .int .i64 0, .int .i64 0] 42)) w.heap.size false 0 0 (0 : Nat) := Ob.new _ _ _
  have H0 := hid h0; clear h0
  refine (sample_no w.heap.size _ r 0 0 (0 : Nat) H0.out).mono ?_
  rintro e w2 ⟨rfl, o2, h2⟩
  have hs := smF_bd false 0 r (by omega)
  have hv := vaF_bd false 0 0 r (by omega) (by omega)
  have H2 := hid h2; have O2 : Hid (Only [] w w2) := hid (((Only.refl [] w).alloc _).fresh o2 HN.out); clear o2 h2 H0
  generalize smF false 0 r = sm at *
  generalize vaF false 0 0 r = va at *
  have HW := hid (wt_bd (base true sm va) (base_bd true sm va))
  have HK := hid (wt_back (base true sm va) (base_bd true sm va))
  go_wp2_with fail
  refine (wait1 w.heap.size _ true sm va 0 H2.out hs hv (by omega)).mono ?_
  rintro e w3 ⟨rfl, n3, rfl⟩
  go_wp2_with fail
  go_loopw [7, 8] (fun v i wr => ∃ j d : Nat, (j : Int) ≤ n ∧ d ≤ j ∧ i = .int .i64 j ∧ v = .int .i64 (wt (base true sm va) j) ∧ Hid (wt (base true sm va) d = wt (base true sm va) j) ∧ Hid (Clk wr w.heap.size true sm va d) ∧ Hid (Only [] w wr)) (fun _ i _ => n.toNat - (intOf i).toNat)
  case atStart => exact ⟨0, 0, by omega, by omega, rfl, rfl, hid rfl, hid (H2.out.drewN _), hid (O2.out.drewN _)⟩
  case round =>
    obtain ⟨j, d, hj, hd, rfl, rfl, HE, HC, HO⟩ := hrel
    have b1 := HW.out j
    by_cases hlt : (j : Int) < n
    · have hw : wt (base true sm va) (j + 1) = min (2 * wt (base true sm va) j) 600 := rfl
      rcases Int.lt_trichotomy (2 * wt (base true sm va) j) 600 with hc | hc | hc
      · have E3 : Hid (wt (base true sm va) (j + 1) = 2 * wt (base true sm va) j) := hid (by omega)
        clear hw
        go_wp2_with fail
        refine (back1 w.heap.size _ true sm va d HC.out hs hv (by omega)).mono ?_
        rintro e w4 ⟨rfl, o4, h4⟩
        have HE' := hid (HK.out d j HE.out)
        have hd' := backF_le (base true sm va) d
        generalize backF (base true sm va) d = d' at *
        have H4 := hid h4; have O4 := hid o4; clear o4 h4
        go_wp2_with fail
        refine (wait1 w.heap.size _ true sm va d' H4.out hs hv (by omega)).mono ?_
        rintro e w5 ⟨rfl, n5, rfl⟩
        rw [HE'.out, E3.out]
        go_wp2
        go_roundw
        case rel => exact ⟨j + 1, d', by omega, by omega, by go_num, by congr 1; exact E3.out.symm, hid HE'.out, hid (H4.out.drewN _), hid ((HO.out.fresh O4.out HN.out).drewN _)⟩
        case measure => simp [intOf]; omega
      · have E3 : Hid (wt (base true sm va) (j + 1) = 600) := hid (by omega)
        have hy : wt (base true sm va) j = 300 := by omega
        clear hw hc
        rw [hy]
        have HY := hid hy; clear hy
        go_wp2_with fail
        refine (back1 w.heap.size _ true sm va d HC.out hs hv (by omega)).mono ?_
        rintro e w4 ⟨rfl, o4, h4⟩
        have HE' := hid (HK.out d j HE.out)
        have hd' := backF_le (base true sm va) d
        generalize backF (base true sm va) d = d' at *
        have H4 := hid h4; have O4 := hid o4; clear o4 h4
        go_wp2_with fail
        refine (wait1 w.heap.size _ true sm va d' H4.out hs hv (by omega)).mono ?_
        rintro e w5 ⟨rfl, n5, rfl⟩
        rw [HE'.out, E3.out]
        go_wp2
        go_roundw
        case rel => exact ⟨j + 1, d', by omega, by omega, by go_num, by congr 1; exact E3.out.symm, hid HE'.out, hid (H4.out.drewN _), hid ((HO.out.fresh O4.out HN.out).drewN _)⟩
        case measure => simp [intOf]; omega
      · have E3 : Hid (wt (base true sm va) (j + 1) = 600) := hid (by omega)
        clear hw
        go_wp2_with fail
        refine (back1 w.heap.size _ true sm va d HC.out hs hv (by omega)).mono ?_
        rintro e w4 ⟨rfl, o4, h4⟩
        have HE' := hid (HK.out d j HE.out)
        have hd' := backF_le (base true sm va) d
        generalize backF (base true sm va) d = d' at *
        have H4 := hid h4; have O4 := hid o4; clear o4 h4
        go_wp2_with fail
        refine (wait1 w.heap.size _ true sm va d' H4.out hs hv (by omega)).mono ?_
        rintro e w5 ⟨rfl, n5, rfl⟩
        rw [HE'.out, E3.out]
        go_wp2
        go_roundw
        case rel => exact ⟨j + 1, d', by omega, by omega, by go_num, by congr 1; exact E3.out.symm, hid HE'.out, hid (H4.out.drewN _), hid ((HO.out.fresh O4.out HN.out).drewN _)⟩
        case measure => simp [intOf]; omega
    · go_wp2_with fail
      refine (calm1 w.heap.size _ true sm va d HC.out).mono ?_
      rintro e w4 ⟨rfl, o4, h4⟩
      have H4 := hid h4; have O4 := hid o4; clear o4 h4
      go_wp2_with fail
      refine (wait1 w.heap.size _ true sm va 0 H4.out hs hv (by omega)).mono ?_
      rintro e w5 ⟨rfl, n5, rfl⟩
      go_wp2_with fail
      refine (known _).mono ?_
      rintro e w6 ⟨rfl, o6⟩
      have O6 := hid o6; clear o6
      go_wp2
      go_ret
      exact ⟨rfl, ((HO.out.fresh O4.out HN.out).drewN _).trans O6.out⟩
theorem settlesOut (r : Int) (w : World) (h : r < 1 ∨ 1048576 < r) : Calls Try.prog 7 #[.int .i64 r] w fun e w' => e = .returned (.bool true) ∧ Only [] w w' := by
  rcases h with h | h
  all_goals
    go_enter Try.func7, Try.ntmps7
    go_wp2_with (go_at_call 32; refine (known _).mono ?_; rintro e w' ⟨rfl, hk⟩)
    all_goals
      go_ret
      exact ⟨rfl, by assumption⟩
theorem doublesOut (r n : Int) (w : World) (h : n < 0 ∨ 100 < n) : Calls Try.prog 8 #[.int .i64 r, .int .i64 n] w fun e w' => e = .returned (.bool true) ∧ Only [] w w' := by
  rcases h with h | h
  all_goals
    go_enter Try.func8, Try.ntmps8
    go_wp2_with (go_at_call 32; refine (known _).mono ?_; rintro e w' ⟨rfl, hk⟩)
    all_goals
      go_ret
      exact ⟨rfl, by assumption⟩
theorem settlesLaw (r : Int) (w : World) : Calls Try.prog 7 #[.int .i64 r] w fun e w' => e = .returned (.bool true) ∧ Only [] w w' := by
  by_cases h : r < 1 ∨ 1048576 < r
  · exact settlesOut r w h
  · exact settlesIn r w (by omega) (by omega)
theorem doublesLaw (r n : Int) (w : World) : Calls Try.prog 8 #[.int .i64 r, .int .i64 n] w fun e w' => e = .returned (.bool true) ∧ Only [] w w' := by
  by_cases h : n < 0 ∨ 100 < n
  · exact doublesOut r n w h
  · exact doublesIn r n w (by omega) (by omega)
end Go.Proofs.Ytoogifoopafghab.clk
