/-
  Chapter 3 (wheel): Next of a wheel that holds any list of timers, by a walk of its text. Conditions: none but those typed.
-/
import Derived.Test.YtnachendenodkaaWhlC
namespace Go.Proofs.Ytnachendenodkaa.whl
set_option linter.unusedVariables false
set_option linter.unusedSimpArgs false
open Go.ChangeShapes Go.WideShapes Go.ChangeAt Go.RowKit Go.IntWalk Go.Lib
/-- What Next answers of a wheel that has a timer: the least tick. -/
def Least (L : List Tm) (n : Int) : Prop := (∀ t ∈ L, n ≤ t.a) ∧ (n = 1099511627776 ∨ ∃ t ∈ L, t.a = n)
set_option maxRecDepth 100000 in
set_option maxHeartbeats 4000000 in
theorem nextL (w : World) (g : Nat) (vs : List Value) (L : List Tm) (h : WV w g vs L) : Calls Try.prog 14 #[.pointer (some ⟨g, 0, none⟩)] w fun x w' => ((L = [] ∧ x = .returned (.tuple #[.int .i64 0, .bool false])) ∨ (L ≠ [] ∧ ∃ n, Least L n ∧ x = .returned (.tuple #[.int .i64 n, .bool true]))) ∧ Only [] w w' := by
  have H := hid h
  have cn := h.r.cellN
  have Q : Hid (Only [] w w) := hid (Only.refl _ _)
  have hm := h.most
  have HR1 := hid h.r.range
  have H64 := hid h.r.n64
  by_cases h0 : L = []
  · subst h0
    clear h
    go_enter Try.func14, Try.ntmps14
    go_wp2
    go_ret2
    exact ⟨.inl ⟨by first | trivial | rfl, rfl⟩, Q.out⟩
  · have HNe := hid h0
    have hl : L.length ≠ 0 := fun e => h0 (List.eq_nil_of_length_eq_zero e)
    have hl2 : ((L.length : Int) == 0) = false := by simpa using hl
    clear h h0
    go_enter Try.func14, Try.ntmps14
    go_wp2_with (first | refine wpList_load_mid rfl _ _ rfl g 0 (by go_simp) vs _ HR1.out Try.underlying25 rfl (by rw [H64.out]; kernel_rfl) ?_ | fail)
    clear cn hl hl2 HR1
    go_loopw [22, 4] (fun i v wr => ∃ (k : Nat) (m : Int), k ≤ 64 ∧ i = .int .i64 k ∧ v = .int .i64 m ∧ Hid ((∀ s, s < k → ∀ t ∈ bk L s, m ≤ t.a) ∧ (m = 1099511627776 ∨ ∃ t ∈ L, t.a = m)) ∧ Hid (Only [] w wr)) (fun i _ _ => 64 - (intOf i).toNat)
    case atStart => exact ⟨0, 1099511627776, by omega, rfl, rfl, hid ⟨fun s hs => absurd hs (by omega), .inl rfl⟩, Q⟩
    case round =>
      obtain ⟨k, m, hk, rfl, rfl, HM, HB⟩ := hrel
      by_cases hlt : k < 64
      · have x1 := run_idx64 vs k hlt H64.out
        obtain ⟨A, c, hv, hnc, hcm, hA0, hRd, hsh, hbl⟩ := H.out.r.slot k hlt
        have HT := hid (TRd.of hRd)
        rw [hv] at x1
        have hn9 : (bk L k).length ≤ 256 := Nat.le_trans (bk_len L k) hm
        clear hv hA0 hRd hsh hbl hnc hcm
        obtain ⟨nn, hNN⟩ : ∃ nn, (bk L k).length = nn := ⟨_, rfl⟩
        have HNN := hid hNN
        rw [hNN] at x1 hn9
        clear hNN
        go_wp2_with fail
        go_loopw [27, 4] (fun i v wr2 => ∃ (j : Nat) (m2 : Int), j ≤ nn ∧ i = .int .i64 j ∧ v = .int .i64 m2 ∧ Hid (m2 ≤ m ∧ (∀ q, q < j → m2 ≤ (gt (bk L k) q).a) ∧ (m2 = 1099511627776 ∨ ∃ t ∈ L, t.a = m2)) ∧ Hid (Only [] w wr2)) (fun i _ _ => nn - (intOf i).toNat)
        case atStart => exact ⟨0, m, by omega, rfl, rfl, hid ⟨Int.le_refl _, fun q hq => absurd hq (by omega), HM.out.2⟩, HB⟩
        case round =>
          obtain ⟨j, m2, hj, rfl, rfl, HM2, HB2⟩ := hrel
          by_cases hjl : j < nn
          · obtain ⟨b, off, rfl, hb, hc⟩ := (HT.out.only_nil HB2.out).at_ (by rw [HNN.out]; omega)
            obtain ⟨q0, q1⟩ := hc j (by rw [HNN.out]; exact hjl)
            clear hc
            have HU := hid (gt_mem (bk L k) j (by rw [HNN.out]; exact hjl))
            obtain ⟨u, hu⟩ : ∃ u, gt (bk L k) j = u := ⟨_, rfl⟩
            have HGu := hid hu
            rw [hu] at q0 q1 HU
            clear hu
            obtain ⟨uk, huk⟩ : ∃ uk, u.k = uk := ⟨_, rfl⟩
            obtain ⟨ua, hua⟩ : ∃ ua, u.a = ua := ⟨_, rfl⟩
            rw [huk] at q0; rw [hua] at q1
            have HUa := hid hua
            clear huk hua
            have HB3 : Hid (Only [] w (wr.alloc (.cells #[.int .i64 uk, .int .i64 ua] 55))) := hid (HB2.out.alloc _)
            by_cases hmin : m2 ≤ ua
            · go_wp2
              go_roundw
              case rel =>
                refine ⟨j + 1, m2, by omega, by go_num, by first | rfl | (congr 1; omega), hid ⟨HM2.out.1, fun q hq => ?_, HM2.out.2.2⟩, HB3⟩
                rcases Nat.lt_or_ge q j with h1 | h1
                · exact HM2.out.2.1 q h1
                · obtain rfl : q = j := by omega
                  rw [HGu.out, HUa.out]; exact hmin
              case measure => simp [intOf]; omega
            · go_wp2
              go_roundw
              case rel =>
                refine ⟨j + 1, ua, by omega, by go_num, by first | rfl | (congr 1; omega), hid ⟨by have := HM2.out.1; omega, fun q hq => ?_, .inr ⟨u, (bk_mem HU.out).1, HUa.out⟩⟩, HB3⟩
                rcases Nat.lt_or_ge q j with h1 | h1
                · have := HM2.out.2.1 q h1; omega
                · obtain rfl : q = j := by omega
                  rw [HGu.out, HUa.out]; exact Int.le_refl _
              case measure => simp [intOf]; omega
          · obtain rfl : j = nn := by omega
            go_wp2
            go_roundw
            case rel =>
              refine ⟨k + 1, m2, by omega, by go_num, rfl, hid ⟨fun s hs t ht => ?_, HM2.out.2.2⟩, HB2⟩
              rcases Nat.lt_or_ge s k with h1 | h1
              · have := HM.out.1 s h1 t ht; have := HM2.out.1; omega
              · obtain rfl : s = k := by omega
                obtain ⟨q, hq, rfl⟩ := List.mem_iff_getElem.1 ht
                have := HM2.out.2.1 q (by rw [← HNN.out]; exact hq)
                rwa [gt_at _ q hq] at this
            case measure => simp [intOf]; omega
      · obtain rfl : k = 64 := by omega
        go_wp2
        go_ret2
        refine ⟨.inr ⟨HNe.out, m, ⟨fun t ht => ?_, HM.out.2⟩, rfl⟩, HB.out⟩
        obtain ⟨s, hs, hm⟩ := mem_bk ht
        exact HM.out.1 s hs t hm
end Go.Proofs.Ytnachendenodkaa.whl
