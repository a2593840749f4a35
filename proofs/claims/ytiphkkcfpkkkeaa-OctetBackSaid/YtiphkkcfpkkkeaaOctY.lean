/-
  Chapter 1 (octet): what is written is read again in the same order, the law by a walk of its text. Conditions: none but those typed.
-/
import Derived.Test.YtiphkkcfpkkkeaaOctU
import Derived.Test.YtiphkkcfpkkkeaaSum1
import Derived.Test.YtiphkkcfpkkkeaaRdr
import Derived.Test.YtiphkkcfpkkkeaaRgn
namespace Go.Proofs.Ytiphkkcfpkkkeaa.oct
set_option linter.unusedVariables false
set_option linter.unusedSimpArgs false
open Go.ChangeShapes Go.WideShapes Go.ChangeAt Go.RowKit Go.IntWalk Go.Lib
/-- What one step writes. -/
def recB (v : Int) (p : List Int) : List Int := ref.two v ++ p ++ ref.four (v % 4294967296)
def allB (V : Nat → Int) (P : Nat → List Int) : Nat → List Int
  | 0 => []
  | j + 1 => allB V P j ++ recB (V j) (P j)
/-- What k steps from s on write. -/
def fromB (V : Nat → Int) (P : Nat → List Int) : Nat → Nat → List Int
  | 0, _ => []
  | k + 1, s => recB (V s) (P s) ++ fromB V P k (s + 1)
theorem all_from (V : Nat → Int) (P : Nat → List Int) : ∀ k j, allB V P j ++ fromB V P k j = allB V P (j + k)
  | 0, j => by simp [fromB]
  | k + 1, j => by
    have := all_from V P k (j + 1)
    simp only [fromB, allB] at this ⊢
    rw [← List.append_assoc, this, show j + 1 + k = j + k + 1 from by omega]
    rfl
theorem from_all (V : Nat → Int) (P : Nat → List Int) (n : Nat) : fromB V P n 0 = allB V P n := by
  have := all_from V P n 0
  simpa [allB] using this
theorem allB_len (V : Nat → Int) (P : Nat → List Int) (RN : Nat → Nat) : ∀ j, (∀ i, i < j → (P i).length = RN i) → (allB V P j).length ≤ 2 * tot RN j
  | 0, _ => by simp [allB]
  | j + 1, h => by
    have h1 := allB_len V P RN j (fun i hi => h i (by omega))
    have h2 := h j (by omega)
    simp only [allB, tot, recB, List.length_append, h2]
    simp [ref.two, ref.four]
    omega
theorem own_cap1 {k : IntKind} {e : TypeId} {w : World} {base : Nat} {v : Value} {l : List Int} {A : Option Addr} {n cap : Nat} (h : Own k e w base v l) (ev : v = .slice A n cap) : A = none → cap = 0 := by
  intro h0
  rcases h.1.2 with ⟨hv, _⟩ | ⟨g', cap', cur, hv, _⟩
  · rw [ev] at hv; injection hv
  · rw [ev, h0] at hv; cases hv
set_option maxHeartbeats 8000000 in
theorem back (w : World) (A : Option Addr) (len c : Nat) (K V : Nat → Int) (RA : Nat → Option Addr) (RN RC : Nat → Nat) (P : Nat → List Int) (h : Steps3 w A len K V RA RN RC P) (hlen : len ≤ 140737488351232) :
    Calls Try.prog 5 #[.slice A len c] w fun e w' => e = .returned (.bool true) ∧ Only [] w w' := by
  have H := hid h; clear h
  have HRl : Hid (∀ i, i < len → (P i).length = RN i) := hid (fun i hi => (H.out.rd i hi).1.len)
  go_enter Try.func5, Try.ntmps5
  go_wp2_with fail
  refine (heavy1 w A len c K V RA RN RC P H.out hlen).mono ?_
  rintro e w' ⟨t, rfl, ht, rfl⟩
  cases t with
  | true =>
    go_wp2
    go_ret
    exact ⟨rfl, Only.refl _ _⟩
  | false =>
    have HTot := hid (ht rfl); clear ht
    have W0 : Hid (wrt.Wr (w.alloc (.cells #[.slice none 0 0] 27)) w.heap.size w.heap.size (.slice none 0 0) (allB V P 0)) := hid ⟨Ob.new _ _ _, Own.nil _ _ _ _, Nat.le_refl _⟩
    have Q0 : Hid (Only [] w (w.alloc (.cells #[.slice none 0 0] 27))) := hid ((Only.refl [] w).alloc _)
    go_wp2_with fail
    go_loopw [4] (fun i wr => ∃ (j : Nat) (v : Value), j ≤ len ∧ i = .int .i64 j ∧ Hid (wrt.Wr wr w.heap.size w.heap.size v (allB V P j)) ∧ Hid (Only [] w wr)) (fun i _ => len - (intOf i).toNat)
    case atStart => exact ⟨0, _, by omega, rfl, W0, Q0⟩
    case round =>
      obtain ⟨j, v, hj, rfl, HV, HB⟩ := hrel
      by_cases hlt : j < len
      · obtain ⟨b, off, rfl, hb, hc⟩ := (H.out.only_nil HB.out).cells (by omega)
        obtain ⟨q0, q1, q2⟩ := hc j hlt
        have HR := hid (H.out.rd j hlt)
        have hlenj := allB_len V P RN j (fun i hi => HRl.out i (by omega))
        have htj := tot_le (RN := RN) (show j + 1 ≤ len from hlt)
        have htt := HTot.out
        have HT : tot RN (j + 1) = tot RN j + 4 + RN j := rfl
        have hw1 : (allB V P j).length ≤ 8000 := by omega
        have hrn : RN j ≤ 4000 := by omega
        have HW : Hid (allB V P (j + 1) = allB V P j ++ ref.two (V j) ++ P j ++ ref.four (V j % 4294967296)) := hid (by simp [allB, recB])
        have HPl := hid (HRl.out j hlt)
        clear hc htj htt HT hlenj hb
        have HQ := hid q0
        go_wp2_with fail
        refine (wrt.two1 wr _ _ _ _ (V j) HV.out (by omega)).mono ?_
        rintro x w1 ⟨rfl, b1, v1, h1'⟩
        have W1 := hid h1'; have Q1 : Hid (Only [] w w1) := hid (only_below' HB.out b1 (Nat.le_refl _)); clear h1' b1 q0 q1 q2
        obtain ⟨_, _, e', _, hc'⟩ := (H.out.only_nil Q1.out).cells (by omega)
        injection e' with e'; injection e' with e1 e2; subst e1 e2
        obtain ⟨q0, q1, q2⟩ := hc' j hlt
        clear hc'
        go_wp2_with fail
        refine (wrt.raw1 w1 _ _ _ _ (RA j) (RN j) (RC j) (P j) W1.out (by simp [ref.two]; omega) ((H.out.only_nil Q1.out).rd j hlt).1 ((H.out.only_nil Q1.out).rd j hlt).2.1 (by omega)).mono ?_
        rintro x w2 ⟨rfl, b2, v2, h2'⟩
        have W2 := hid h2'; have Q2 : Hid (Only [] w w2) := hid (only_below' Q1.out b2 (Nat.le_refl _)); clear h2' b2 q0 q1 q2
        obtain ⟨_, _, e', _, hc'⟩ := (H.out.only_nil Q2.out).cells (by omega)
        injection e' with e'; injection e' with e1 e2; subst e1 e2
        obtain ⟨q0, q1, q2⟩ := hc' j hlt
        clear hc'
        go_wp2_with fail
        refine (wrt.four1 w2 _ _ _ _ (V j % 4294967296) W2.out (by simp [HPl.out]; omega)).mono ?_
        rintro x w3 ⟨rfl, b3, v3, h3'⟩
        have W3 : Hid (wrt.Wr w3 w.heap.size w.heap.size v3 (allB V P (j + 1))) := hid (by rw [HW.out]; simpa [ref.two, ref.four] using h3')
        have Q3 : Hid (Only [] w w3) := hid (only_below' Q2.out b3 (Nat.le_refl _)); clear h3' b3 q0 q1 q2
        go_wp2
        go_roundw
        case rel => exact ⟨j + 1, v3, by omega, by go_num, W3, Q3⟩
        case measure => simp [intOf]; omega
      · obtain rfl : j = len := by omega
        have hlenj := allB_len V P RN j (fun i hi => HRl.out i (by omega))
        have hll : (allB V P j).length ≤ 8000 := by have := HTot.out; omega
        clear hlenj
        have HFA : Hid (allB V P j = fromB V P (j - 0) 0) := hid (from_all V P j).symm
        go_wp2_with fail
        refine (wrt.bytes1 wr _ _ _ _ HV.out (by omega)).mono ?_
        rintro x w1 ⟨v1, rfl, hv1, o1⟩
        obtain ⟨A1, cap1, ev1, _, _, r1, _⟩ := hv1.slice
        have N1 := hid (own_cap1 hv1 ev1)
        have R1 := hid r1; have B1 := hid (HB.out.trans o1); clear hv1 o1 r1
        subst ev1
        go_wp2_with fail
        refine (rdr.new1 w1 A1 _ cap1 _ R1.out N1.out (by omega)).mono ?_
        rintro x w2 ⟨r, e, p, rfl, h2, o2⟩
        rw [HFA.out] at h2
        have hsz1 := B1.out.size
        have B2 := hid (B1.out.trans o2); clear o2
        have RD := hid h2; clear h2
        obtain ⟨hlo1, hlo2, _, _⟩ := RD.out.lows
        go_wp2_with fail
        go_loopw [6] (fun i wr => ∃ k : Nat, k ≤ j ∧ i = .int .i64 k ∧ Hid (rdr.Rdr wr w1.heap.size w2.heap.size r e p 0 (fromB V P (j - k) k)) ∧ Hid (Only [] w wr)) (fun i _ => j - (intOf i).toNat)
        case atStart => exact ⟨0, by omega, rfl, RD, B2⟩
        case round =>
          clear RD B2 B1 HV HB R1 N1
          obtain ⟨k, hk, rfl, RD, HB⟩ := hrel
          by_cases hlt : k < j
          · obtain ⟨b, off, rfl, hb, hc⟩ := (H.out.only_nil HB.out).cells (by omega)
            clear hc
            have hb : b < w.heap.size := by
              obtain ⟨_, _, e', hb', _⟩ := H.out.cells (by omega)
              injection e' with e'; injection e' with e1 e2; subst e1 e2
              exact hb'
            have htj := tot_le (RN := RN) (show k + 1 ≤ j from hlt)
            have htt := HTot.out
            have HT : tot RN (k + 1) = tot RN k + 4 + RN k := rfl
            have hrn : RN k ≤ 4000 := by omega
            have HPl := hid (HRl.out k hlt)
            have hRD := (H.out.rd k hlt).1
            have HF : Hid (fromB V P (j - k) k = recB (V k) (P k) ++ fromB V P (j - (k + 1)) (k + 1)) := hid (by rw [show j - k = (j - (k + 1)) + 1 from by omega]; rfl)
            have HN1 : Hid (rdr.num ((fromB V P (j - k) k).take 2) = V k % 65536) := hid (by rw [HF.out]; simp [recB, ref.two, rdr.num]; omega)
            have HTK : Hid (((fromB V P (j - k) k).drop 2).take (RN k) = P k) := hid (by rw [HF.out]; simp [recB, ref.two]; rw [List.take_left' HPl.out])
            have HDR : Hid (((fromB V P (j - k) k).drop 2).drop (RN k) = ref.four (V k % 4294967296) ++ fromB V P (j - (k + 1)) (k + 1)) := hid (by rw [HF.out]; simp only [recB, ref.two, List.append_assoc, List.cons_append, List.nil_append, List.drop_succ_cons, List.drop_zero]; rw [List.drop_left' HPl.out])
            have HN4 : Hid (rdr.num ((((fromB V P (j - k) k).drop 2).drop (RN k)).take 4) = V k % 4294967296) := hid (by rw [HDR.out]; simp [ref.four, rdr.num]; omega)
            have HD4 : Hid ((((fromB V P (j - k) k).drop 2).drop (RN k)).drop 4 = fromB V P (j - (k + 1)) (k + 1)) := hid (by rw [HDR.out]; simp [ref.four])
            clear htj htt HT hRD
            go_wp2_with fail
            refine wp_region_noPanic ?_
            refine rgn.regionT (R := Only [e, p]) (by kernel_rfl) (Only.refl [e, p]) (fun _ _ _ => Only.trans) (fun _ _ _ _ _ h => h) (.y 0 (.y 2 (.y 3 (.y 4 (.y 5 (.y 6 (.y 7 (.e 1 (.y 8 (.y 9 (.y 10 (.y 11 (.y 12 (.y 13 (.y 14 (.y 15 (.y 16 (.y 18 (.y 19 (.y 20 (.y 21 (.y 22 (.e 17 (.e 23 (.y 24 (.y 25 (.y 26 (.y 27 (.y 29 (.y 30 (.y 31 (.y 32 (.y 33 (.y 34 (.e 28 (.y 35 (.y 36 .z))))))))))))))))))))))))))))))))))))) (by kernel_rfl) (fun W hWd => ?_)
            have HWd := hid hWd; clear hWd
            have hWo : Only [] wr W := (Only.refl [] _).eq_drew HWd.out
            have RD := hid (RD.out.only_nil hWo); have QW := hid (HB.out.trans hWo); clear hWo HWd
            obtain ⟨_, _, e', hb', hc'⟩ := (H.out.only_nil QW.out).cells (by omega)
            injection e' with e'; injection e' with e1 e2; subst e1 e2
            obtain ⟨q0, q1, q2⟩ := hc' k hlt
            clear hc' q0
            refine rgn.Walk.ys (v := ?_) rfl rfl rfl ?_ ?_
            rotate_left 1
            · intro W' hW'
              go_simp
              try with_reducible rfl
            try simp only [Act.put, List.setIfInBounds_toArray, List.set_cons_zero, List.set_cons_succ]
            refine rgn.Walk.ys (v := ?_) rfl rfl rfl ?_ ?_
            rotate_left 1
            · intro W' hW'
              go_simp
              try with_reducible rfl
            try simp only [Act.put, List.setIfInBounds_toArray, List.set_cons_zero, List.set_cons_succ]
            refine rgn.Walk.ys (v := ?_) rfl rfl rfl ?_ ?_
            rotate_left 1
            · intro W' hW'
              go_simp
              try with_reducible rfl
            try simp only [Act.put, List.setIfInBounds_toArray, List.set_cons_zero, List.set_cons_succ]
            refine rgn.Walk.ys (v := ?_) rfl rfl rfl ?_ ?_
            rotate_left 1
            · intro W' hW'
              go_simp
              try with_reducible rfl
            try simp only [Act.put, List.setIfInBounds_toArray, List.set_cons_zero, List.set_cons_succ]
            refine rgn.Walk.ys (v := ?_) rfl rfl rfl ?_ ?_
            rotate_left 1
            · intro W' hW'
              go_simp
              try with_reducible rfl
            try simp only [Act.put, List.setIfInBounds_toArray, List.set_cons_zero, List.set_cons_succ]
            refine rgn.Walk.ys (v := ?_) rfl rfl rfl ?_ ?_
            rotate_left 1
            · intro W' hW'
              have q0 := hW'.keepN q1 (by simp; omega)
              go_simp
              try with_reducible rfl
            try simp only [Act.put, List.setIfInBounds_toArray, List.set_cons_zero, List.set_cons_succ]
            refine rgn.Walk.ys (v := ?_) rfl rfl rfl ?_ ?_
            rotate_left 1
            · intro W' hW'
              have a1 := i64_and65535 (V k)
              go_simp
              try with_reducible rfl
            try simp only [Act.put, List.setIfInBounds_toArray, List.set_cons_zero, List.set_cons_succ]
            refine rgn.Walk.es ?_
            refine rgn.stepE rfl rfl (fun K hK => ?_)
            go_simp
            refine (rdr.two_ok _ _ _ r e p _ RD.out (by rw [HF.out]; simp [recB, ref.two])).mono ?_
            rintro x w5 ⟨rfl, HRR, OO⟩
            rw [HN1.out]
            refine hK _ _ OO ?_
            clear hK K q1 q2
            try simp only [Act.put, List.setIfInBounds_toArray, List.set_cons_zero, List.set_cons_succ]
            have RD := hid (show rdr.Rdr _ _ _ r e p 0 ((fromB V P (j - k) k).drop 2) from HRR); clear HRR
            have QW := hid (QW.out.fresh OO (by simp; omega)); clear OO
            obtain ⟨_, _, e', hb', hc'⟩ := (H.out.only_nil QW.out).cells (by omega)
            injection e' with e'; injection e' with e1 e2; subst e1 e2
            obtain ⟨q0, q1, q2⟩ := hc' k hlt
            clear hc' q0
            refine rgn.Walk.ys (v := ?_) rfl rfl rfl ?_ ?_
            rotate_left 1
            · intro W' hW'
              go_simp
              try with_reducible rfl
            try simp only [Act.put, List.setIfInBounds_toArray, List.set_cons_zero, List.set_cons_succ]
            refine rgn.Walk.ys (v := ?_) rfl rfl rfl ?_ ?_
            rotate_left 1
            · intro W' hW'
              go_simp
              try with_reducible rfl
            try simp only [Act.put, List.setIfInBounds_toArray, List.set_cons_zero, List.set_cons_succ]
            refine rgn.Walk.ys (v := ?_) rfl rfl rfl ?_ ?_
            rotate_left 1
            · intro W' hW'
              go_simp
              try with_reducible rfl
            try simp only [Act.put, List.setIfInBounds_toArray, List.set_cons_zero, List.set_cons_succ]
            refine rgn.Walk.ys (v := ?_) rfl rfl rfl ?_ ?_
            rotate_left 1
            · intro W' hW'
              go_simp
              try with_reducible rfl
            try simp only [Act.put, List.setIfInBounds_toArray, List.set_cons_zero, List.set_cons_succ]
            refine rgn.Walk.ys (v := ?_) rfl rfl rfl ?_ ?_
            rotate_left 1
            · intro W' hW'
              go_simp
              try with_reducible rfl
            try simp only [Act.put, List.setIfInBounds_toArray, List.set_cons_zero, List.set_cons_succ]
            refine rgn.Walk.ys (v := ?_) rfl rfl rfl ?_ ?_
            rotate_left 1
            · intro W' hW'
              go_simp
              try with_reducible rfl
            try simp only [Act.put, List.setIfInBounds_toArray, List.set_cons_zero, List.set_cons_succ]
            refine rgn.Walk.ys (v := ?_) rfl rfl rfl ?_ ?_
            rotate_left 1
            · intro W' hW'
              go_simp
              try with_reducible rfl
            try simp only [Act.put, List.setIfInBounds_toArray, List.set_cons_zero, List.set_cons_succ]
            refine rgn.Walk.ys (v := ?_) rfl rfl rfl ?_ ?_
            rotate_left 1
            · intro W' hW'
              have q0 := hW'.keepN q2 (by simp; omega)
              go_simp
              try with_reducible rfl
            try simp only [Act.put, List.setIfInBounds_toArray, List.set_cons_zero, List.set_cons_succ]
            refine rgn.Walk.ys (v := ?_) rfl rfl rfl ?_ ?_
            rotate_left 1
            · intro W' hW'
              go_simp
              try with_reducible rfl
            try simp only [Act.put, List.setIfInBounds_toArray, List.set_cons_zero, List.set_cons_succ]
            refine rgn.Walk.ys (v := ?_) rfl rfl rfl ?_ ?_
            rotate_left 1
            · intro W' hW'
              go_simp
              try with_reducible rfl
            try simp only [Act.put, List.setIfInBounds_toArray, List.set_cons_zero, List.set_cons_succ]
            refine rgn.Walk.ys (v := ?_) rfl rfl rfl ?_ ?_
            rotate_left 1
            · intro W' hW'
              go_simp
              try with_reducible rfl
            try simp only [Act.put, List.setIfInBounds_toArray, List.set_cons_zero, List.set_cons_succ]
            refine rgn.Walk.ys (v := ?_) rfl rfl rfl ?_ ?_
            rotate_left 1
            · intro W' hW'
              go_simp
              try with_reducible rfl
            try simp only [Act.put, List.setIfInBounds_toArray, List.set_cons_zero, List.set_cons_succ]
            refine rgn.Walk.ys (v := ?_) rfl rfl rfl ?_ ?_
            rotate_left 1
            · intro W' hW'
              go_simp
              try with_reducible rfl
            try simp only [Act.put, List.setIfInBounds_toArray, List.set_cons_zero, List.set_cons_succ]
            refine rgn.Walk.ys (v := ?_) rfl rfl rfl ?_ ?_
            rotate_left 1
            · intro W' hW'
              have q0 := hW'.keepN q2 (by simp; omega)
              go_simp
              try with_reducible rfl
            try simp only [Act.put, List.setIfInBounds_toArray, List.set_cons_zero, List.set_cons_succ]
            refine rgn.Walk.es ?_
            refine rgn.stepE rfl rfl (fun K hK => ?_)
            go_simp
            refine (rdr.raw_ok _ _ _ r e p _ (RN k : Int) (RN k) RD.out rfl (by rw [HF.out]; simp [recB, ref.two, HPl.out] <;> omega) (by omega)).mono ?_
            rintro x w6 ⟨vv, rfl, hvv, HRR, OO⟩
            obtain ⟨A6, c6, ev6, _, _, r6, _⟩ := hvv.slice
            rw [HTK.out] at ev6 r6
            rw [HPl.out] at ev6 r6
            subst ev6
            have R6 := hid r6
            clear r6 hvv
            refine hK _ _ OO ?_
            clear hK K q1 q2
            try simp only [Act.put, List.setIfInBounds_toArray, List.set_cons_zero, List.set_cons_succ]
            have RD := hid (show rdr.Rdr _ _ _ r e p 0 (((fromB V P (j - k) k).drop 2).drop (RN k)) from HRR); clear HRR
            have QW := hid (QW.out.fresh OO (by simp; omega)); clear OO
            obtain ⟨_, _, e', hb', hc'⟩ := (H.out.only_nil QW.out).cells (by omega)
            injection e' with e'; injection e' with e1 e2; subst e1 e2
            obtain ⟨q0, q1, q2⟩ := hc' k hlt
            clear hc' q0
            refine rgn.Walk.es ?_
            refine rgn.stepE rfl rfl (fun K hK => ?_)
            go_simp
            refine (callsOnly (hlp.same _ A6 (RA k) (RN k) (RN k) c6 (RC k) (P k) (P k) R6.out ((H.out.only_nil QW.out).rd k hlt).1 (by omega) (by omega))).mono ?_
            rintro x w7 ⟨rfl, OO⟩
            rw [show decide (P k = P k) = true from by simp]
            refine hK _ _ (OO.more (by simp)) ?_
            clear hK K q1 q2 R6
            try simp only [Act.put, List.setIfInBounds_toArray, List.set_cons_zero, List.set_cons_succ]
            have RD := hid (RD.out.only_nil OO); have QW := hid (QW.out.trans OO); clear OO
            obtain ⟨_, _, e', hb', hc'⟩ := (H.out.only_nil QW.out).cells (by omega)
            injection e' with e'; injection e' with e1 e2; subst e1 e2
            obtain ⟨q0, q1, q2⟩ := hc' k hlt
            clear hc' q0
            refine rgn.Walk.ys (v := ?_) rfl rfl rfl ?_ ?_
            rotate_left 1
            · intro W' hW'
              go_simp
              try with_reducible rfl
            try simp only [Act.put, List.setIfInBounds_toArray, List.set_cons_zero, List.set_cons_succ]
            refine rgn.Walk.ys (v := ?_) rfl rfl rfl ?_ ?_
            rotate_left 1
            · intro W' hW'
              go_simp
              try with_reducible rfl
            try simp only [Act.put, List.setIfInBounds_toArray, List.set_cons_zero, List.set_cons_succ]
            refine rgn.Walk.ys (v := ?_) rfl rfl rfl ?_ ?_
            rotate_left 1
            · intro W' hW'
              go_simp
              try with_reducible rfl
            try simp only [Act.put, List.setIfInBounds_toArray, List.set_cons_zero, List.set_cons_succ]
            refine rgn.Walk.ys (v := ?_) rfl rfl rfl ?_ ?_
            rotate_left 1
            · intro W' hW'
              go_simp
              try with_reducible rfl
            try simp only [Act.put, List.setIfInBounds_toArray, List.set_cons_zero, List.set_cons_succ]
            refine rgn.Walk.ys (v := ?_) rfl rfl rfl ?_ ?_
            rotate_left 1
            · intro W' hW'
              go_simp
              try with_reducible rfl
            try simp only [Act.put, List.setIfInBounds_toArray, List.set_cons_zero, List.set_cons_succ]
            refine rgn.Walk.ys (v := ?_) rfl rfl rfl ?_ ?_
            rotate_left 1
            · intro W' hW'
              go_simp
              try with_reducible rfl
            try simp only [Act.put, List.setIfInBounds_toArray, List.set_cons_zero, List.set_cons_succ]
            refine rgn.Walk.ys (v := ?_) rfl rfl rfl ?_ ?_
            rotate_left 1
            · intro W' hW'
              go_simp
              try with_reducible rfl
            try simp only [Act.put, List.setIfInBounds_toArray, List.set_cons_zero, List.set_cons_succ]
            refine rgn.Walk.ys (v := ?_) rfl rfl rfl ?_ ?_
            rotate_left 1
            · intro W' hW'
              go_simp
              try with_reducible rfl
            try simp only [Act.put, List.setIfInBounds_toArray, List.set_cons_zero, List.set_cons_succ]
            refine rgn.Walk.ys (v := ?_) rfl rfl rfl ?_ ?_
            rotate_left 1
            · intro W' hW'
              have q0 := hW'.keepN q1 (by simp; omega)
              go_simp
              try with_reducible rfl
            try simp only [Act.put, List.setIfInBounds_toArray, List.set_cons_zero, List.set_cons_succ]
            refine rgn.Walk.ys (v := ?_) rfl rfl rfl ?_ ?_
            rotate_left 1
            · intro W' hW'
              have a2 : IntKind.u32.wrap (V k) = V k % 4294967296 := IntKind.wrap_u32 _
              go_simp
              try with_reducible rfl
            try simp only [Act.put, List.setIfInBounds_toArray, List.set_cons_zero, List.set_cons_succ]
            refine rgn.Walk.es ?_
            refine rgn.stepE rfl rfl (fun K hK => ?_)
            go_simp
            refine (rdr.four_ok _ _ _ r e p _ RD.out (by rw [HF.out]; simp [recB, ref.two, ref.four, HPl.out] <;> omega)).mono ?_
            rintro x w8 ⟨rfl, HRR, OO⟩
            rw [HN4.out]
            refine hK _ _ OO ?_
            clear hK K q1 q2
            try simp only [Act.put, List.setIfInBounds_toArray, List.set_cons_zero, List.set_cons_succ]
            have RD := hid (show rdr.Rdr _ _ _ r e p 0 ((((fromB V P (j - k) k).drop 2).drop (RN k)).drop 4) from HRR); clear HRR
            have QW := hid (QW.out.fresh OO (by simp; omega)); clear OO
            obtain ⟨_, _, e', hb', hc'⟩ := (H.out.only_nil QW.out).cells (by omega)
            injection e' with e'; injection e' with e1 e2; subst e1 e2
            obtain ⟨q0, q1, q2⟩ := hc' k hlt
            clear hc' q0
            refine rgn.Walk.ys (v := ?_) rfl rfl rfl ?_ ?_
            rotate_left 1
            · intro W' hW'
              go_simp
              try with_reducible rfl
            try simp only [Act.put, List.setIfInBounds_toArray, List.set_cons_zero, List.set_cons_succ]
            refine rgn.Walk.ys (v := ?_) rfl rfl rfl ?_ ?_
            rotate_left 1
            · intro W' hW'
              go_simp
              try with_reducible rfl
            try simp only [Act.put, List.setIfInBounds_toArray, List.set_cons_zero, List.set_cons_succ]
            refine rgn.Walk.zs (NoPanic.normal ?_)
            rw [HD4.out] at RD
            clear q1 q2
            go_wp2
            go_roundw
            case rel => exact ⟨k + 1, by omega, by go_num, RD, QW⟩
            case measure => simp [intOf]; omega
          · obtain rfl : k = j := by omega
            have HZ : Hid (fromB V P (k - k) k = []) := hid (by rw [Nat.sub_self]; rfl)
            have RD := hid (HZ.out ▸ RD.out)
            go_wp2_with fail
            refine (rdr.left_ok _ _ _ r e p [] RD.out).mono ?_
            rintro x w5 ⟨rfl, HRR, OO⟩
            have RD := hid HRR; have HB := hid (HB.out.fresh OO (by simp; omega)); clear HRR OO
            go_wp2_with fail
            refine (rdr.err_ok _ _ _ r e p [] RD.out).mono ?_
            rintro x w6 ⟨rfl, HRR, OO⟩
            have HB := hid (HB.out.fresh OO (by simp; omega)); clear HRR OO
            go_wp2_with fail
            refine (known _).mono ?_
            rintro x w7 ⟨rfl, o7⟩
            have HB := hid (HB.out.trans o7); clear o7
            go_wp2
            go_ret
            exact ⟨rfl, HB.out⟩
end Go.Proofs.Ytiphkkcfpkkkeaa.oct
