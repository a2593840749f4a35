/-
  Chapter 3 (wheel): the law WheelOnce, by a walk of its text. Conditions: none but those typed.
-/
import Derived.Test.YtnachendenodkaaWhlM
import Derived.Deep.LoopGhost
namespace Go.Proofs.Ytnachendenodkaa.whl
set_option linter.unusedVariables false
set_option linter.unusedSimpArgs false
open Go.ChangeShapes Go.WideShapes Go.ChangeAt Go.RowKit Go.IntWalk Go.Lib
/-- The timers that the law sets: the i-th tick under the key i. -/
def rowT (U : List Int) (n : Nat) : List Tm := (List.range n).map fun (j : Nat) => (⟨(j : Int), U.getD j 0⟩ : Tm)
theorem rowT_len (U : List Int) (n : Nat) : (rowT U n).length = n := by simp [rowT]
theorem rowT_mem {U : List Int} {n : Nat} {t : Tm} (h : t ∈ rowT U n) : ∃ j : Nat, j < n ∧ t = ⟨(j : Int), U.getD j 0⟩ := by
  obtain ⟨j, hj, rfl⟩ := List.mem_map.1 h
  exact ⟨j, by simpa using hj, rfl⟩
theorem rowT_step (U : List Int) (n : Nat) (h : n < 256) (h0 : 0 ≤ U.getD n 0) (h1 : U.getD n 0 ≤ 1099511627776) : setE (rowT U n) n (U.getD n 0) = 0 ∧ setS (rowT U n) n (U.getD n 0) = rowT U (n + 1) := by
  have e := setE_ok (L := rowT U n) (key := (n : Int)) h0 h1 (by rw [rowT_len]; exact h)
  refine ⟨e, ?_⟩
  have hno : has (rowT U n) (n : Int) = false := by
    unfold has
    rw [List.any_eq_false]
    intro t ht
    obtain ⟨j, hj, rfl⟩ := rowT_mem ht
    simp; omega
  rw [setS_ok e, has_rm hno]
  simp [rowT, List.range_succ]
/-- Those that are due behind a tick. -/
def behind (U : List Int) (n : Nat) (d : Int) : List Tm := (rowT U n).filter fun t => decide (d < t.a)
theorem behind_all {U : List Int} {n : Nat} (h : ∀ j, j < n → 0 ≤ U.getD j 0) {d : Int} (hd : d < 0) : behind U n d = rowT U n := List.filter_eq_self.2 fun t ht => by
  obtain ⟨j, hj, rfl⟩ := rowT_mem ht
  have := h j hj
  exact decide_eq_true (show d < U.getD j 0 by omega)
theorem behind_late (U : List Int) (n : Nat) {d e : Int} (h : d ≤ e) : lates (behind U n d) e = behind U n e := by
  unfold lates behind
  rw [List.filter_filter]
  apply List.filter_congr
  intro t _
  simp only [isDue]
  by_cases h1 : e < t.a
  · have : d < t.a := by omega
    have h2 : ¬ t.a ≤ e := by omega
    simp [h1, this, h2]
  · have h2 : t.a ≤ e := by omega
    simp [h1, h2]
theorem behind_mem {U : List Int} {n : Nat} {d e : Int} {t : Tm} (h : t ∈ dues (behind U n d) e) : ∃ j : Nat, j < n ∧ t = ⟨(j : Int), U.getD j 0⟩ ∧ d < U.getD j 0 ∧ U.getD j 0 ≤ e := by
  obtain ⟨h1, h2⟩ := List.mem_filter.1 h
  obtain ⟨h3, h4⟩ := List.mem_filter.1 h1
  obtain ⟨j, hj, rfl⟩ := rowT_mem h3
  exact ⟨j, hj, rfl, by simpa using h4, by simpa [isDue] using h2⟩
def lastOf (E : List Tm) (l0 : Int) (j : Nat) : Int := if j = 0 then l0 else (gt E (j - 1)).a
set_option maxRecDepth 100000 in
set_option maxHeartbeats 8000000 in
theorem once (w : World) (A : Option Addr) (n cA : Nat) (U : List Int) (step : Int) (hU : Rd .i64 w A n U) : Calls Try.prog 4 #[.slice A n cA, .int .i64 step] w fun x w' => x = .returned (.bool true) ∧ Only [] w w' := by
  have hz := zeroW
  have H0 := hid (newX w)
  have HU := hid hU
  clear hU
  have QR : Hid (Only [] w w) := hid (Only.refl _ _)
  by_cases hn : n ≤ 100
  · have hn0 : ¬ (100 : Int) < n := by omega
    by_cases hs1 : 1 ≤ step
    · have hs0 : ¬ step < 1 := by omega
      by_cases hs2 : step ≤ 1073741824
      · have hs3 : ¬ 1073741824 < step := by omega
        go_enter Try.func4, Try.ntmps4
        go_wp2_with fail
        generalize w.alloc (.cells newC 27) = W0 at *
        go_loopw [6] (fun i wr => ∃ (k : Nat) (vs : List Value), k ≤ n ∧ i = .int .i64 k ∧ Hid (WX w wr w.heap.size vs (rowT U k)) ∧ Hid (∀ j, j < k → 0 ≤ U.getD j 0 ∧ U.getD j 0 ≤ 100000)) (fun i _ => n - (intOf i).toNat)
        case atStart => exact ⟨0, vs0, by omega, rfl, H0, hid (fun j hj => absurd hj (by omega))⟩
        case round =>
          clear H0
          obtain ⟨i, vs, hi, rfl, HX, HR⟩ := hrel
          by_cases hlt : i < n
          · obtain ⟨bU, oU, rfl, _, hcU⟩ := HU.out.at_ (by omega)
            have q0 := HX.out.o.keep (hcU i hlt)
            have HSt := hid (rowT_step U i (by omega))
            obtain ⟨ua, hua⟩ : ∃ ua, U.getD i 0 = ua := ⟨_, rfl⟩
            have HUa := hid hua
            rw [hua] at q0 HSt
            clear hua hcU
            by_cases a1 : 0 ≤ ua
            · by_cases a2 : ua ≤ 100000
              · have HE := hid (HSt.out a1 (by omega))
                have HR2 : Hid (∀ j, j < i + 1 → 0 ≤ U.getD j 0 ∧ U.getD j 0 ≤ 100000) := hid (fun j hj => by
                  rcases Nat.lt_or_ge j i with h1 | h1
                  · exact HR.out j h1
                  · rw [show j = i from by omega, HUa.out]; exact ⟨a1, a2⟩)
                clear HSt
                go_wp2_with fail
                refine (setX w _ _ _ _ i ua HX.out).mono ?_
                rintro x w4 ⟨rfl, vs4, h4⟩
                rw [HE.out.2] at h4
                rw [HE.out.1]
                have HX4 := hid h4; clear h4
                go_wp2_with fail
                go_roundw
                case rel => exact ⟨i + 1, vs4, by omega, by go_num, HX4, HR2⟩
                case measure => simp [intOf]; omega
              · clear HSt
                go_wp2_with fail
                refine (known1 _).mono ?_
                rintro x w9 ⟨rfl, o9⟩
                have Q9 := hid (HX.out.o.trans o9); clear o9
                go_wp2_with fail
                go_ret
                exact ⟨rfl, Q9.out⟩
            · clear HSt
              go_wp2_with fail
              refine (known1 _).mono ?_
              rintro x w9 ⟨rfl, o9⟩
              have Q9 := hid (HX.out.o.trans o9); clear o9
              go_wp2_with fail
              go_ret
              exact ⟨rfl, Q9.out⟩
          · obtain rfl : n = i := by omega
            have HBL : Hid (∀ d, (behind U n d).length ≤ n) := hid (fun d => by have := List.length_filter_le (fun t : Tm => decide (d < t.a)) (rowT U n); rw [rowT_len] at this; unfold behind; omega)
            have HX0 : Hid (WX w wr w.heap.size vs (behind U n (-1))) := hid (by rw [behind_all (fun j hj => (HR.out j hj).1) (by omega)]; exact HX.out)
            have hb0 : (behind U n (-1)).length = n := by rw [behind_all (fun j hj => (HR.out j hj).1) (by omega), rowT_len]
            have HB0 := hid hb0
            have HSt : Hid (1 ≤ step) := hid hs1
            clear hb0 HX
            go_wp2_with fail
            go_loopg [9, 7, 8] 3000 (fun gk i o l wr => ∃ (c : Nat) (nw d ot la : Int) (vs : List Value), c + gk = 3000 ∧ i = .int .i64 nw ∧ o = .int .i64 ot ∧ l = .int .i64 la ∧ Hid (WX w wr w.heap.size vs (behind U n d)) ∧ Hid (ot + (behind U n d).length = n) ∧ Hid (la ≤ d) ∧ nw - step ≤ d ∧ d ≤ nw ∧ 0 ≤ nw ∧ nw ≤ 3221225472000 ∧ nw.tdiv step = c ∧ Hid (nw = c * step))
            case atStart => exact ⟨0, 0, -1, 0, -1, vs, by omega, rfl, rfl, rfl, HX0, hid (by rw [HB0.out]; omega), hid (Int.le_refl _), by omega, by omega, by omega, by omega, by simp, hid (by simp)⟩
            case round =>
              clear HX0 HB0 vs
              obtain ⟨c, nw, d, ot, la, vs, hcg, rfl, rfl, rfl, HX, HOt0, HLa, hds, hdn, hw0, hwm, hq, HNw⟩ := hrel
              have HOt : Hid (0 ≤ ot ∧ ot ≤ 100) := hid (by have := HOt0.out; have := HBL.out d; omega)
              have hot := HOt.out
              by_cases c3 : c < 3000
              · by_cases c1 : nw < 100000 + step
                · by_cases c2 : nw = 0
                  · have b2 : (nw == 0) = true := by simpa using c2
                    have HC2 := hid c2; clear c2
                    have HDu := hid (dueX w wr w.heap.size vs (behind U n d) nw HX.out)
                    go_wp2_with fail
                    refine HDu.out.mono ?_
                    rintro x w4 hD
                    clear HDu
                    obtain ⟨E, b, vs4, rfl, h1, h2, h3, h4, h5, h6, h7⟩ := hD
                    have hEl : E.length + (behind U n nw).length = (behind U n d).length := by rw [h1.length_eq, ← behind_late U n hdn]; exact due_late_len _ _
                    rw [behind_late U n hdn] at h5
                    have HX4 := hid h5
                    have HEm : Hid (∀ j, j < E.length → ∃ k : Nat, k < n ∧ gt E j = ⟨(k : Int), U.getD k 0⟩ ∧ d < U.getD k 0 ∧ U.getD k 0 ≤ nw) := hid (fun j hj => behind_mem (h1.subset (gt_mem E j hj)))
                    have HEs : Hid (∀ j, j + 1 < E.length → (gt E j).a ≤ (gt E (j + 1)).a) := hid (fun j hj => by
                      have h9 := List.pairwise_iff_getElem.1 h2 j (j + 1) (by omega) hj (by omega)
                      rw [← gt_at E j (by omega), ← gt_at E (j + 1) hj] at h9
                      have : ¬ ((gt E (j + 1)).a < (gt E j).a ∨ (gt E (j + 1)).a = (gt E j).a ∧ (gt E (j + 1)).k < (gt E j).k) := by rw [← tlt_iff]; simp [h9]
                      omega)
                    have HOb := hid h4
                    obtain ⟨ne, hne⟩ : ∃ ne, E.length = ne := ⟨_, rfl⟩
                    have HNe := hid hne
                    rw [hne] at hEl
                    have HEl := hid hEl
                    rw [hne]
                    have hnel : ne ≤ 100 := by
                      have := HBL.out d; omega
                    clear h1 h2 h3 h4 h5 h6 h7 hEl hne
                    go_wp2_with fail
                    go_loopw [11, 7, 8] (fun i o l wr => ∃ j : Nat, j ≤ ne ∧ i = .int .i64 j ∧ o = .int .i64 (ot + j) ∧ l = .int .i64 (lastOf E la j) ∧ Hid (Only [] w4 wr)) (fun i _ _ _ => ne - (intOf i).toNat)
                    case atStart => exact ⟨0, by omega, rfl, by simp, by simp [lastOf], hid (Only.refl _ _)⟩
                    case round =>
                      obtain ⟨j, hj, rfl, rfl, rfl, HB⟩ := hrel
                      by_cases hlt : j < ne
                      · obtain ⟨k, hk, hgk, hd1, hd2⟩ := HEm.out j (by rw [HNe.out]; exact hlt)
                        have c1 := (HOb.out.only HB.out (by simp)).cell j
                        rw [rowV_get .i64 (keys E) j (by rw [keys_len, HNe.out]; exact hlt)] at c1
                        have e1 : (keys E).getD j 0 = (k : Int) := by
                          have : (keys E).getD j 0 = (gt E j).k := by simp [keys, gt, List.getD_eq_getElem?_getD, show j < E.length from by rw [HNe.out]; exact hlt]
                          rw [this, hgk]
                        rw [e1] at c1
                        have hll : lastOf E la j ≤ U.getD k 0 := by
                          unfold lastOf
                          by_cases h0 : j = 0
                          · rw [if_pos h0]; have := HLa.out; omega
                          · rw [if_neg h0]
                            have h9 := HEs.out (j - 1) (by rw [HNe.out]; omega)
                            rw [show j - 1 + 1 = j from by omega, hgk] at h9
                            exact h9
                        have HLn : Hid (lastOf E la (j + 1) = U.getD k 0) := hid (by unfold lastOf; rw [if_neg (by omega), show j + 1 - 1 = j from by omega, hgk])
                        obtain ⟨bU, oU, rfl, _, hcU⟩ := HU.out.at_ (by omega)
                        have q0 := (HX4.out.o.trans HB.out).keep (hcU k hk)
                        obtain ⟨ll, hle⟩ : ∃ ll, lastOf E la j = ll := ⟨_, rfl⟩
                        obtain ⟨uk, huk⟩ : ∃ uk, U.getD k 0 = uk := ⟨_, rfl⟩
                        rw [hle]
                        rw [hle] at hll
                        rw [huk] at q0 hll hd1 hd2 HLn
                        have hst2 := HSt.out
                        have g1 : ¬ (k : Int) < 0 := by omega
                        have g2 : ¬ (n : Int) ≤ (k : Int) := by omega
                        have g3 : ¬ nw < uk := by omega
                        have g4 : ¬ uk ≤ nw - step := by omega
                        have g5 : ¬ uk < ll := by omega
                        have hot2 := HOt.out.1
                        have hot3 := HOt.out.2
                        clear hle huk hcU hgk e1 hst2
                        go_wp2_with fail
                        go_roundw
                        case rel => exact ⟨j + 1, by omega, by go_num, by first | rfl | (congr 1; omega), by rw [HLn.out], HB⟩
                        case measure => simp [intOf]; omega
                      · obtain rfl : ne = j := by omega
                        have HX5 := hid (HX4.out.only_nil HB.out)
                        have HLast : Hid (lastOf E la ne ≤ nw) := hid (by
                          unfold lastOf
                          by_cases h0 : ne = 0
                          · rw [if_pos h0]; have := HLa.out; omega
                          · rw [if_neg h0]
                            obtain ⟨k, _, hgk, _, hd2⟩ := HEm.out (ne - 1) (by rw [HNe.out]; omega)
                            rw [hgk]; exact hd2)
                        have HNext : Hid (nw + step = ((c + 1 : Nat) : Int) * step) := hid (by rw [HNw.out]; push_cast; rw [Int.add_mul, Int.one_mul])
                        have HTd : Hid ((nw + step).tdiv step = ((c + 1 : Nat) : Int)) := hid (by rw [HNext.out]; exact Int.mul_tdiv_cancel _ (by omega))
                        have hnm : nw + step ≤ 3221225472000 := by
                          rw [HNext.out]
                          have h1 : ((c + 1 : Nat) : Int) * step ≤ 3000 * step := Int.mul_le_mul_of_nonneg_right (by omega) (by omega)
                          omega
                        have HOt9 : Hid (ot + ne + (behind U n nw).length = n) := hid (by have := HOt0.out; have := HEl.out; omega)
                        obtain ⟨lz, hlz⟩ : ∃ lz, lastOf E la ne = lz := ⟨_, rfl⟩
                        rw [hlz] at HLast
                        rw [hlz]
                        have hot3 := HOt.out.2
                        clear hlz
                        go_wp2_with fail
                        refine (nextL _ _ _ _ HX5.out.v).mono ?_
                        rintro x w7 ⟨hx, o7⟩
                        have HX7 := hid (HX5.out.only_nil o7); clear o7
                        rcases hx with ⟨_, rfl⟩ | ⟨hne2, nx, hnx, rfl⟩
                        · go_wp2
                          go_roundg (3000 - (c + 1))
                          case measure => omega
                          case rel => exact ⟨c + 1, nw + step, nw, ot + ne, lz, vs4, by omega, rfl, rfl, rfl, HX7, HOt9, HLast, by omega, by omega, by omega, hnm, HTd.out, HNext⟩
                        · have hgt : ¬ nx ≤ nw := by
                            rcases hnx.2 with e | ⟨t, ht, e⟩
                            · omega
                            · have := (List.mem_filter.1 ht).2
                              have : nw < t.a := by simpa using this
                              omega
                          clear hnx hne2
                          go_wp2
                          go_roundg (3000 - (c + 1))
                          case measure => omega
                          case rel => exact ⟨c + 1, nw + step, nw, ot + ne, lz, vs4, by omega, rfl, rfl, rfl, HX7, HOt9, HLast, by omega, by omega, by omega, hnm, HTd.out, HNext⟩
                  · have b2 : (nw == 0) = false := by simpa using c2
                    by_cases c4 : ot < n
                    · clear c2
                      have HDu := hid (dueX w wr w.heap.size vs (behind U n d) nw HX.out)
                      go_wp2_with fail
                      refine HDu.out.mono ?_
                      rintro x w4 hD
                      clear HDu
                      obtain ⟨E, b, vs4, rfl, h1, h2, h3, h4, h5, h6, h7⟩ := hD
                      have hEl : E.length + (behind U n nw).length = (behind U n d).length := by rw [h1.length_eq, ← behind_late U n hdn]; exact due_late_len _ _
                      rw [behind_late U n hdn] at h5
                      have HX4 := hid h5
                      have HEm : Hid (∀ j, j < E.length → ∃ k : Nat, k < n ∧ gt E j = ⟨(k : Int), U.getD k 0⟩ ∧ d < U.getD k 0 ∧ U.getD k 0 ≤ nw) := hid (fun j hj => behind_mem (h1.subset (gt_mem E j hj)))
                      have HEs : Hid (∀ j, j + 1 < E.length → (gt E j).a ≤ (gt E (j + 1)).a) := hid (fun j hj => by
                        have h9 := List.pairwise_iff_getElem.1 h2 j (j + 1) (by omega) hj (by omega)
                        rw [← gt_at E j (by omega), ← gt_at E (j + 1) hj] at h9
                        have : ¬ ((gt E (j + 1)).a < (gt E j).a ∨ (gt E (j + 1)).a = (gt E j).a ∧ (gt E (j + 1)).k < (gt E j).k) := by rw [← tlt_iff]; simp [h9]
                        omega)
                      have HOb := hid h4
                      obtain ⟨ne, hne⟩ : ∃ ne, E.length = ne := ⟨_, rfl⟩
                      have HNe := hid hne
                      rw [hne] at hEl
                      have HEl := hid hEl
                      rw [hne]
                      have hnel : ne ≤ 100 := by
                        have := HBL.out d; omega
                      clear h1 h2 h3 h4 h5 h6 h7 hEl hne
                      go_wp2_with fail
                      go_loopw [11, 7, 8] (fun i o l wr => ∃ j : Nat, j ≤ ne ∧ i = .int .i64 j ∧ o = .int .i64 (ot + j) ∧ l = .int .i64 (lastOf E la j) ∧ Hid (Only [] w4 wr)) (fun i _ _ _ => ne - (intOf i).toNat)
                      case atStart => exact ⟨0, by omega, rfl, by simp, by simp [lastOf], hid (Only.refl _ _)⟩
                      case round =>
                        obtain ⟨j, hj, rfl, rfl, rfl, HB⟩ := hrel
                        by_cases hlt : j < ne
                        · obtain ⟨k, hk, hgk, hd1, hd2⟩ := HEm.out j (by rw [HNe.out]; exact hlt)
                          have c1 := (HOb.out.only HB.out (by simp)).cell j
                          rw [rowV_get .i64 (keys E) j (by rw [keys_len, HNe.out]; exact hlt)] at c1
                          have e1 : (keys E).getD j 0 = (k : Int) := by
                            have : (keys E).getD j 0 = (gt E j).k := by simp [keys, gt, List.getD_eq_getElem?_getD, show j < E.length from by rw [HNe.out]; exact hlt]
                            rw [this, hgk]
                          rw [e1] at c1
                          have hll : lastOf E la j ≤ U.getD k 0 := by
                            unfold lastOf
                            by_cases h0 : j = 0
                            · rw [if_pos h0]; have := HLa.out; omega
                            · rw [if_neg h0]
                              have h9 := HEs.out (j - 1) (by rw [HNe.out]; omega)
                              rw [show j - 1 + 1 = j from by omega, hgk] at h9
                              exact h9
                          have HLn : Hid (lastOf E la (j + 1) = U.getD k 0) := hid (by unfold lastOf; rw [if_neg (by omega), show j + 1 - 1 = j from by omega, hgk])
                          obtain ⟨bU, oU, rfl, _, hcU⟩ := HU.out.at_ (by omega)
                          have q0 := (HX4.out.o.trans HB.out).keep (hcU k hk)
                          obtain ⟨ll, hle⟩ : ∃ ll, lastOf E la j = ll := ⟨_, rfl⟩
                          obtain ⟨uk, huk⟩ : ∃ uk, U.getD k 0 = uk := ⟨_, rfl⟩
                          rw [hle]
                          rw [hle] at hll
                          rw [huk] at q0 hll hd1 hd2 HLn
                          have hst2 := HSt.out
                          have g1 : ¬ (k : Int) < 0 := by omega
                          have g2 : ¬ (n : Int) ≤ (k : Int) := by omega
                          have g3 : ¬ nw < uk := by omega
                          have g4 : ¬ uk ≤ nw - step := by omega
                          have g5 : ¬ uk < ll := by omega
                          have hot2 := HOt.out.1
                          have hot3 := HOt.out.2
                          clear hle huk hcU hgk e1 hst2
                          go_wp2_with fail
                          go_roundw
                          case rel => exact ⟨j + 1, by omega, by go_num, by first | rfl | (congr 1; omega), by rw [HLn.out], HB⟩
                          case measure => simp [intOf]; omega
                        · obtain rfl : ne = j := by omega
                          have HX5 := hid (HX4.out.only_nil HB.out)
                          have HLast : Hid (lastOf E la ne ≤ nw) := hid (by
                            unfold lastOf
                            by_cases h0 : ne = 0
                            · rw [if_pos h0]; have := HLa.out; omega
                            · rw [if_neg h0]
                              obtain ⟨k, _, hgk, _, hd2⟩ := HEm.out (ne - 1) (by rw [HNe.out]; omega)
                              rw [hgk]; exact hd2)
                          have HNext : Hid (nw + step = ((c + 1 : Nat) : Int) * step) := hid (by rw [HNw.out]; push_cast; rw [Int.add_mul, Int.one_mul])
                          have HTd : Hid ((nw + step).tdiv step = ((c + 1 : Nat) : Int)) := hid (by rw [HNext.out]; exact Int.mul_tdiv_cancel _ (by omega))
                          have hnm : nw + step ≤ 3221225472000 := by
                            rw [HNext.out]
                            have h1 : ((c + 1 : Nat) : Int) * step ≤ 3000 * step := Int.mul_le_mul_of_nonneg_right (by omega) (by omega)
                            omega
                          have HOt9 : Hid (ot + ne + (behind U n nw).length = n) := hid (by have := HOt0.out; have := HEl.out; omega)
                          obtain ⟨lz, hlz⟩ : ∃ lz, lastOf E la ne = lz := ⟨_, rfl⟩
                          rw [hlz] at HLast
                          rw [hlz]
                          have hot3 := HOt.out.2
                          clear hlz
                          go_wp2_with fail
                          refine (nextL _ _ _ _ HX5.out.v).mono ?_
                          rintro x w7 ⟨hx, o7⟩
                          have HX7 := hid (HX5.out.only_nil o7); clear o7
                          rcases hx with ⟨_, rfl⟩ | ⟨hne2, nx, hnx, rfl⟩
                          · go_wp2
                            go_roundg (3000 - (c + 1))
                            case measure => omega
                            case rel => exact ⟨c + 1, nw + step, nw, ot + ne, lz, vs4, by omega, rfl, rfl, rfl, HX7, HOt9, HLast, by omega, by omega, by omega, hnm, HTd.out, HNext⟩
                          · have hgt : ¬ nx ≤ nw := by
                              rcases hnx.2 with e | ⟨t, ht, e⟩
                              · omega
                              · have := (List.mem_filter.1 ht).2
                                have : nw < t.a := by simpa using this
                                omega
                            clear hnx hne2
                            go_wp2
                            go_roundg (3000 - (c + 1))
                            case measure => omega
                            case rel => exact ⟨c + 1, nw + step, nw, ot + ne, lz, vs4, by omega, rfl, rfl, rfl, HX7, HOt9, HLast, by omega, by omega, by omega, hnm, HTd.out, HNext⟩
                    · clear c2
                      obtain ⟨lb, hlb⟩ : ∃ lb, (behind U n d).length = lb := ⟨_, rfl⟩
                      have HLb := hid hlb
                      have b1 : (ot + (lb : Int) == (n : Int)) = true := by have := HOt0.out; rw [hlb] at this; simpa using this
                      have hlb2 : lb ≤ 100 := by have := HBL.out d; omega
                      clear hlb
                      go_wp2_with fail
                      refine (lenX HX.out).mono ?_
                      rintro x w8 ⟨rfl, h8⟩
                      rw [HLb.out]
                      have H8 := hid h8; clear h8
                      go_wp2_with fail
                      refine (known1 _).mono ?_
                      rintro x w9 ⟨rfl, o9⟩
                      have Q9 := hid (H8.out.o.trans o9); clear o9
                      go_wp2_with fail
                      go_ret
                      exact ⟨rfl, Q9.out⟩
                · have c1' : ¬ nw < 100000 + step := c1
                  obtain ⟨lb, hlb⟩ : ∃ lb, (behind U n d).length = lb := ⟨_, rfl⟩
                  have HLb := hid hlb
                  have b1 : (ot + (lb : Int) == (n : Int)) = true := by have := HOt0.out; rw [hlb] at this; simpa using this
                  have hlb2 : lb ≤ 100 := by have := HBL.out d; omega
                  clear hlb
                  go_wp2_with fail
                  refine (lenX HX.out).mono ?_
                  rintro x w8 ⟨rfl, h8⟩
                  rw [HLb.out]
                  have H8 := hid h8; clear h8
                  go_wp2_with fail
                  refine (known1 _).mono ?_
                  rintro x w9 ⟨rfl, o9⟩
                  have Q9 := hid (H8.out.o.trans o9); clear o9
                  go_wp2_with fail
                  go_ret
                  exact ⟨rfl, Q9.out⟩
              · obtain rfl : c = 3000 := by omega
                by_cases c1 : nw < 100000 + step
                · by_cases c2 : nw = 0
                  · have b2 : (nw == 0) = true := by simpa using c2
                    clear c2
                    obtain ⟨lb, hlb⟩ : ∃ lb, (behind U n d).length = lb := ⟨_, rfl⟩
                    have HLb := hid hlb
                    have b1 : (ot + (lb : Int) == (n : Int)) = true := by have := HOt0.out; rw [hlb] at this; simpa using this
                    have hlb2 : lb ≤ 100 := by have := HBL.out d; omega
                    clear hlb
                    go_wp2_with fail
                    refine (lenX HX.out).mono ?_
                    rintro x w8 ⟨rfl, h8⟩
                    rw [HLb.out]
                    have H8 := hid h8; clear h8
                    go_wp2_with fail
                    refine (known1 _).mono ?_
                    rintro x w9 ⟨rfl, o9⟩
                    have Q9 := hid (H8.out.o.trans o9); clear o9
                    go_wp2_with fail
                    go_ret
                    exact ⟨rfl, Q9.out⟩
                  · have b2 : (nw == 0) = false := by simpa using c2
                    clear c2
                    by_cases c4 : ot < n
                    · skip
                      obtain ⟨lb, hlb⟩ : ∃ lb, (behind U n d).length = lb := ⟨_, rfl⟩
                      have HLb := hid hlb
                      have b1 : (ot + (lb : Int) == (n : Int)) = true := by have := HOt0.out; rw [hlb] at this; simpa using this
                      have hlb2 : lb ≤ 100 := by have := HBL.out d; omega
                      clear hlb
                      go_wp2_with fail
                      refine (lenX HX.out).mono ?_
                      rintro x w8 ⟨rfl, h8⟩
                      rw [HLb.out]
                      have H8 := hid h8; clear h8
                      go_wp2_with fail
                      refine (known1 _).mono ?_
                      rintro x w9 ⟨rfl, o9⟩
                      have Q9 := hid (H8.out.o.trans o9); clear o9
                      go_wp2_with fail
                      go_ret
                      exact ⟨rfl, Q9.out⟩
                    · skip
                      obtain ⟨lb, hlb⟩ : ∃ lb, (behind U n d).length = lb := ⟨_, rfl⟩
                      have HLb := hid hlb
                      have b1 : (ot + (lb : Int) == (n : Int)) = true := by have := HOt0.out; rw [hlb] at this; simpa using this
                      have hlb2 : lb ≤ 100 := by have := HBL.out d; omega
                      clear hlb
                      go_wp2_with fail
                      refine (lenX HX.out).mono ?_
                      rintro x w8 ⟨rfl, h8⟩
                      rw [HLb.out]
                      have H8 := hid h8; clear h8
                      go_wp2_with fail
                      refine (known1 _).mono ?_
                      rintro x w9 ⟨rfl, o9⟩
                      have Q9 := hid (H8.out.o.trans o9); clear o9
                      go_wp2_with fail
                      go_ret
                      exact ⟨rfl, Q9.out⟩
                · skip
                  obtain ⟨lb, hlb⟩ : ∃ lb, (behind U n d).length = lb := ⟨_, rfl⟩
                  have HLb := hid hlb
                  have b1 : (ot + (lb : Int) == (n : Int)) = true := by have := HOt0.out; rw [hlb] at this; simpa using this
                  have hlb2 : lb ≤ 100 := by have := HBL.out d; omega
                  clear hlb
                  go_wp2_with fail
                  refine (lenX HX.out).mono ?_
                  rintro x w8 ⟨rfl, h8⟩
                  rw [HLb.out]
                  have H8 := hid h8; clear h8
                  go_wp2_with fail
                  refine (known1 _).mono ?_
                  rintro x w9 ⟨rfl, o9⟩
                  have Q9 := hid (H8.out.o.trans o9); clear o9
                  go_wp2_with fail
                  go_ret
                  exact ⟨rfl, Q9.out⟩
      · have hs3 : 1073741824 < step := by omega
        go_enter Try.func4, Try.ntmps4
        go_wp2_with fail
        refine (known1 _).mono ?_
        rintro x w9 ⟨rfl, o9⟩
        have Q9 := hid (QR.out.trans o9); clear o9
        go_wp2_with fail
        go_ret
        exact ⟨rfl, Q9.out⟩
    · have hs0 : step < 1 := by omega
      go_enter Try.func4, Try.ntmps4
      go_wp2_with fail
      refine (known1 _).mono ?_
      rintro x w9 ⟨rfl, o9⟩
      have Q9 := hid (QR.out.trans o9); clear o9
      go_wp2_with fail
      go_ret
      exact ⟨rfl, Q9.out⟩
  · have hn0 : (100 : Int) < n := by omega
    go_enter Try.func4, Try.ntmps4
    go_wp2_with fail
    refine (known1 _).mono ?_
    rintro x w9 ⟨rfl, o9⟩
    have Q9 := hid (QR.out.trans o9); clear o9
    go_wp2_with fail
    go_ret
    exact ⟨rfl, Q9.out⟩
end Go.Proofs.Ytnachendenodkaa.whl
