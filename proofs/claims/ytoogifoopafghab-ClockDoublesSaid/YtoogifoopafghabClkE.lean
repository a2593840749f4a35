/-
  Chapter 15 (clock): of every script the program's clock and the document's say the same (ClockPlays). Conditions: none but those typed.
-/
import Derived.Test.YtoogifoopafghabClkC
import Derived.Test.YtoogifoopafghabClkD
import Derived.Test.YtoogifoopafghabRec
namespace Go.Proofs.Ytoogifoopafghab.clk
set_option linter.unusedVariables false
set_option linter.unusedSimpArgs false
open Go.ChangeShapes Go.WideShapes Go.ChangeAt Go.RowKit Go.IntWalk Go.Lib
theorem wt_six (b : Int) (hb : 10 ≤ b ∧ b ≤ 600) : wt b 6 = 600 := by
  have h0 : wt b 0 = b := rfl
  have h1 : wt b 1 = min (2 * wt b 0) 600 := rfl
  have h2 : wt b 2 = min (2 * wt b 1) 600 := rfl
  have h3 : wt b 3 = min (2 * wt b 2) 600 := rfl
  have h4 : wt b 4 = min (2 * wt b 3) 600 := rfl
  have h5 : wt b 5 = min (2 * wt b 4) 600 := rfl
  have h6 : wt b 6 = min (2 * wt b 5) 600 := rfl
  omega
theorem back_both (b : Int) (hb : 10 ≤ b ∧ b ≤ 600) (d1 d2 : Nat) (h : wt b d1 = wt b d2) (h2 : d2 ≤ 64) : wt b (backF b d1) = wt b (min (d2 + 1) 64) := by
  rw [wt_back b hb d1 d2 h]
  by_cases h3 : d2 = 64
  · subst h3
    rw [wt_stay b hb 6 (wt_six b hb) (64 + 1) (by omega), wt_stay b hb 6 (wt_six b hb) (min (64 + 1) 64) (by omega)]
  · rw [show min (d2 + 1) 64 = d2 + 1 from by omega]
/-- Both objects after some steps. -/
structure Both (w wr : World) (g : Nat) (n : Nat) (s : Bool) (sm va : Int) (d1 d2 : Nat) : Prop where
  one : Clk wr g s sm va d1
  two : Ref wr (g + 1) s sm va d2
  only : Only [] w wr
  same : wt (base s sm va) d1 = wt (base s sm va) d2
  le1 : d1 ≤ n
  le2 : d2 ≤ 64
theorem fresh1 {w a b : World} (h : Only [] w a) {g : Nat} (hg : w.heap.size ≤ g) (k : Only [g] a b) : Only [] w b := h.fresh k (by simpa using hg)
set_option maxRecDepth 100000 in
set_option maxHeartbeats 2000000 in
theorem plays (w : World) (A : Option Addr) (len cap : Nat) (V : Nat → Nat → Int) (hR : Recs w A len 2 (fun _ => .i64) V) (hm : len ≤ 9223372036854775807) :
   Calls Try.prog 6 #[.slice A len cap] w fun e w' => e = .returned (.bool true) ∧ Only [] w w' := by
  go_enter Try.func6, Try.ntmps6
  go_wp2_with fail
  go_loopw [5] (fun i wr => ∃ (j : Nat) (s : Bool) (sm va : Int) (d1 d2 : Nat), i = .int .i64 j ∧ j ≤ len ∧ j ≤ 300 ∧ (0 ≤ sm ∧ sm ≤ 8388608) ∧ (0 ≤ va ∧ va ≤ 8388608) ∧ Hid (Both w wr w.heap.size j s sm va d1 d2)) (fun i _ => 300 - (intOf i).toNat)
  case atStart => exact ⟨0, false, 0, 0, 0, 0, rfl, by omega, by omega, by omega, by omega, hid ⟨(Ob.new _ _ _).alloc _, by unfold Ref; simpa using Ob.new (w.alloc (.cells #[.bool false, .int .i64 0, .int .i64 0, .int .i64 0] 42)) 45 _, (((Only.refl [] w).alloc _).alloc _), rfl, by omega, by omega⟩⟩
  case round =>
    obtain ⟨j, s, sm, va, d1, d2, rfl, hj, hj3, hs, hv, HB⟩ := hrel
    by_cases hlt : j < len
    · by_cases hlt3 : j < 300
      · rcases hR with h0 | ⟨b, off, rfl, _, hc⟩
        · omega
        obtain ⟨hbl, hcc⟩ := hc j hlt
        have k0 := (hcc 0 (by omega)).1
        have k1 := (hcc 1 (by omega)).1
        have a0 : wr.cell? ⟨b, off + j * 2, none⟩ = some (.int .i64 (V j 0)) := (HB.out.only.cell (p := ⟨b, off + j * 2, none⟩) hbl (by simp)).trans (by simpa using k0)
        have a1 : wr.cell? ⟨b, off + j * 2 + 1, none⟩ = some (.int .i64 (V j 1)) := (HB.out.only.cell (p := ⟨b, off + j * 2 + 1, none⟩) hbl (by simp)).trans (by simpa [Nat.add_assoc] using k1)
        generalize V j 0 = kd at *
        generalize V j 1 = nn at *
        have HA := hid a1
        clear k0 k1 hcc hc
        by_cases h1 : kd = 1
        · subst h1
          go_wp2_with fail
          refine (sample1 w.heap.size _ s nn sm va d1 HB.out.one hs hv).mono ?_
          rintro e w2 ⟨rfl, o2, p2⟩
          have a1' : w2.cell? ⟨b, off + j * 2 + 1, none⟩ = some (.int .i64 nn) := (o2.cell (p := ⟨b, off + j * 2 + 1, none⟩) (Nat.lt_of_lt_of_le hbl HB.out.only.size) (by simp; omega)).trans HA.out
          have O2 := hid o2; have P2 := hid p2; clear o2 p2
          go_wp2_with fail
          refine (refSample (w.heap.size + 1) _ s nn sm va d2 (HB.out.two.only O2.out (by simp)) hs hv).mono ?_
          rintro e w3 ⟨rfl, o3, p3⟩
          have HB3 : Hid (Both w w3 w.heap.size (j + 1) true (smF s sm nn) (vaF s sm va nn) (0 : Nat) (0 : Nat)) := hid ⟨P2.out.only o3 (by simp), p3, fresh1 (fresh1 HB.out.only (Nat.le_refl _) O2.out) (by omega) o3, rfl, by omega, by omega⟩
          have hs3 := smF_bd s sm nn hs
          have hv3 := vaF_bd s sm va nn hs hv
          clear o3 p3 a1 a1' a0
          generalize smF s sm nn = sm3 at *
          generalize vaF s sm va nn = va3 at *
          clear HB
          obtain ⟨s4, sm4, va4, e1, e2, hs4, hv4, HB4⟩ : ∃ (s4 : Bool) (sm4 va4 : Int) (e1 e2 : Nat), (0 ≤ sm4 ∧ sm4 ≤ 8388608) ∧ (0 ≤ va4 ∧ va4 ≤ 8388608) ∧ Hid (Both w w3 w.heap.size (j + 1) s4 sm4 va4 e1 e2) := ⟨_, _, _, _, _, hs3, hv3, HB3⟩
          clear hs3 hv3 HB3
          have c1 := HB4.out.two.cell 1
          have c2 := HB4.out.two.cell 2
          have bw := wt_bd (base s4 sm4 va4) (base_bd s4 sm4 va4) e2
          have HE := hid HB4.out.same
          go_wp2_with fail
          refine (seen1 w.heap.size _ s4 sm4 va4 _ HB4.out.one).mono ?_
          rintro e w5 ⟨rfl, n5, rfl⟩
          have hle1 : e1 ≤ 1000 := by have := HB4.out.le1; omega
          have hle2 : e2 ≤ 1000 := by have := HB4.out.le2; omega
          go_wp2_with (first | (go_at_call 30; refine (wait1 w.heap.size _ s4 sm4 va4 e1 (HB4.out.one.drewN _) hs4 hv4 hle1).mono ?_; rintro e w6 ⟨rfl, n6, rfl⟩; rw [HE.out]) | (go_at_call 31; refine (refWait (w.heap.size + 1) _ s4 sm4 va4 e2 (HB4.out.two.drewN _) hs4 hv4 hle2).mono ?_; rintro e w6 ⟨rfl, n6, rfl⟩))
          go_roundw
          case rel => exact ⟨j + 1, s4, sm4, va4, e1, e2, by go_num, by omega, by omega, hs4, hv4, hid ⟨HB4.out.one.drewN _, HB4.out.two.drewN _, HB4.out.only.drewN _, HB4.out.same, HB4.out.le1, HB4.out.le2⟩⟩
          case measure => simp [intOf]; omega
        · by_cases h2 : kd = 2
          · subst h2
            go_wp2_with fail
            refine (back1 w.heap.size _ s sm va d1 HB.out.one hs hv (by have := HB.out.le1; omega)).mono ?_
            rintro e w2 ⟨rfl, o2, p2⟩
            have O2 := hid o2; have P2 := hid p2; clear o2 p2
            go_wp2_with fail
            refine (refBack (w.heap.size + 1) _ s sm va d2 (HB.out.two.only O2.out (by simp)) (by have := HB.out.le2; omega)).mono ?_
            rintro e w3 ⟨rfl, o3, p3⟩
            have HB3 : Hid (Both w w3 w.heap.size (j + 1) s sm va (backF (base s sm va) d1) (min (d2 + 1) 64)) := hid ⟨P2.out.only o3 (by simp), p3, fresh1 (fresh1 HB.out.only (Nat.le_refl _) O2.out) (by omega) o3, back_both _ (base_bd _ _ _) d1 d2 HB.out.same HB.out.le2, by have := backF_le (base s sm va) d1; have := HB.out.le1; omega, by omega⟩
            have hs3 := hs
            have hv3 := hv
            clear o3 p3 a1 a0
            clear HB
            obtain ⟨s4, sm4, va4, e1, e2, hs4, hv4, HB4⟩ : ∃ (s4 : Bool) (sm4 va4 : Int) (e1 e2 : Nat), (0 ≤ sm4 ∧ sm4 ≤ 8388608) ∧ (0 ≤ va4 ∧ va4 ≤ 8388608) ∧ Hid (Both w w3 w.heap.size (j + 1) s4 sm4 va4 e1 e2) := ⟨_, _, _, _, _, hs3, hv3, HB3⟩
            clear hs3 hv3 HB3
            have c1 := HB4.out.two.cell 1
            have c2 := HB4.out.two.cell 2
            have bw := wt_bd (base s4 sm4 va4) (base_bd s4 sm4 va4) e2
            have HE := hid HB4.out.same
            go_wp2_with fail
            refine (seen1 w.heap.size _ s4 sm4 va4 _ HB4.out.one).mono ?_
            rintro e w5 ⟨rfl, n5, rfl⟩
            have hle1 : e1 ≤ 1000 := by have := HB4.out.le1; omega
            have hle2 : e2 ≤ 1000 := by have := HB4.out.le2; omega
            go_wp2_with (first | (go_at_call 30; refine (wait1 w.heap.size _ s4 sm4 va4 e1 (HB4.out.one.drewN _) hs4 hv4 hle1).mono ?_; rintro e w6 ⟨rfl, n6, rfl⟩; rw [HE.out]) | (go_at_call 31; refine (refWait (w.heap.size + 1) _ s4 sm4 va4 e2 (HB4.out.two.drewN _) hs4 hv4 hle2).mono ?_; rintro e w6 ⟨rfl, n6, rfl⟩))
            go_roundw
            case rel => exact ⟨j + 1, s4, sm4, va4, e1, e2, by go_num, by omega, by omega, hs4, hv4, hid ⟨HB4.out.one.drewN _, HB4.out.two.drewN _, HB4.out.only.drewN _, HB4.out.same, HB4.out.le1, HB4.out.le2⟩⟩
            case measure => simp [intOf]; omega
          · go_wp2_with fail
            refine (calm1 w.heap.size _ s sm va d1 HB.out.one).mono ?_
            rintro e w2 ⟨rfl, o2, p2⟩
            have O2 := hid o2; have P2 := hid p2; clear o2 p2
            go_wp2_with fail
            refine (refCalm (w.heap.size + 1) _ s sm va d2 (HB.out.two.only O2.out (by simp))).mono ?_
            rintro e w3 ⟨rfl, o3, p3⟩
            have HB3 : Hid (Both w w3 w.heap.size (j + 1) s sm va (0 : Nat) (0 : Nat)) := hid ⟨P2.out.only o3 (by simp), p3, fresh1 (fresh1 HB.out.only (Nat.le_refl _) O2.out) (by omega) o3, rfl, by omega, by omega⟩
            have hs3 := hs
            have hv3 := hv
            clear o3 p3 a1 a0
            clear HB
            obtain ⟨s4, sm4, va4, e1, e2, hs4, hv4, HB4⟩ : ∃ (s4 : Bool) (sm4 va4 : Int) (e1 e2 : Nat), (0 ≤ sm4 ∧ sm4 ≤ 8388608) ∧ (0 ≤ va4 ∧ va4 ≤ 8388608) ∧ Hid (Both w w3 w.heap.size (j + 1) s4 sm4 va4 e1 e2) := ⟨_, _, _, _, _, hs3, hv3, HB3⟩
            clear hs3 hv3 HB3
            have c1 := HB4.out.two.cell 1
            have c2 := HB4.out.two.cell 2
            have bw := wt_bd (base s4 sm4 va4) (base_bd s4 sm4 va4) e2
            have HE := hid HB4.out.same
            go_wp2_with fail
            refine (seen1 w.heap.size _ s4 sm4 va4 _ HB4.out.one).mono ?_
            rintro e w5 ⟨rfl, n5, rfl⟩
            have hle1 : e1 ≤ 1000 := by have := HB4.out.le1; omega
            have hle2 : e2 ≤ 1000 := by have := HB4.out.le2; omega
            go_wp2_with (first | (go_at_call 30; refine (wait1 w.heap.size _ s4 sm4 va4 e1 (HB4.out.one.drewN _) hs4 hv4 hle1).mono ?_; rintro e w6 ⟨rfl, n6, rfl⟩; rw [HE.out]) | (go_at_call 31; refine (refWait (w.heap.size + 1) _ s4 sm4 va4 e2 (HB4.out.two.drewN _) hs4 hv4 hle2).mono ?_; rintro e w6 ⟨rfl, n6, rfl⟩))
            go_roundw
            case rel => exact ⟨j + 1, s4, sm4, va4, e1, e2, by go_num, by omega, by omega, hs4, hv4, hid ⟨HB4.out.one.drewN _, HB4.out.two.drewN _, HB4.out.only.drewN _, HB4.out.same, HB4.out.le1, HB4.out.le2⟩⟩
            case measure => simp [intOf]; omega
      · go_wp2_with (go_at_call 32; refine (known _).mono ?_; rintro e w6 ⟨rfl, o6⟩)
        go_ret
        exact ⟨rfl, HB.out.only.trans (by assumption)⟩
    · go_wp2_with (go_at_call 32; refine (known _).mono ?_; rintro e w6 ⟨rfl, o6⟩)
      go_ret
      exact ⟨rfl, HB.out.only.trans (by assumption)⟩
end Go.Proofs.Ytoogifoopafghab.clk
