/-
  Chapter 13 (ring): a Ring's functions, and the document's, each by a walk of its text. Conditions: none but those typed.
-/
import Derived.Test.YtbjmckmajpdglaaRngH
namespace Go.Proofs.Ytbjmckmajpdglaa.rng
set_option linter.unusedVariables false
set_option linter.unusedSimpArgs false
open Go.ChangeShapes Go.WideShapes Go.ChangeAt Go.RowKit Go.IntWalk Go.Lib
/-- How the two Rings stand at a step. -/
def PInv (w wr : World) (g b ge N B : Nat) : Prop := ∃ l, St wr g b N l ∧ Et wr ge N [g, b, ge] l ∧ Only [] w wr ∧ B ≤ wr.heap.size
set_option maxRecDepth 100000 in
set_option maxHeartbeats 1000000 in
theorem plays (w : World) (room : Int) (A : Option Addr) (len c : Nat) (V0 V1 V2 : Nat → Int) (RA : Nat → Option Addr) (RN RC : Nat → Nat) (P : Nat → List Int) (h : OplR w A len V0 V1 V2 RA RN RC P) (hlen : len ≤ 140737488351232) (hroom : -9223372036854775808 ≤ room ∧ room ≤ 9223372036854775807) :
    Calls Try.prog 3 #[.int .i64 room, .slice A len c] w (fun e w' => e = .returned (.bool true) ∧ Only [] w w') := by
  have H := hid h; clear h
  go_enter Try.func3, Try.ntmps3
  go_wp2_with fail
  refine (heavy w A len c V0 V1 V2 RA RN RC P H.out hlen).mono ?_
  rintro x w' ⟨t, rfl, ht, rfl⟩
  cases t with
  | true =>
    go_wp2_with fail
    refine (ev.known w).mono ?_
    rintro x w2 ⟨rfl, o⟩
    have HB := hid o; clear o
    go_wp2
    go_ret
    exact ⟨rfl, HB.out⟩
  | false =>
    have HTot := hid (ht rfl); clear ht
    by_cases hgood : 1 ≤ room ∧ room ≤ 1048560
    · obtain ⟨N, rfl⟩ : ∃ N : Nat, room = (N : Int) := ⟨room.toNat, by omega⟩
      have hN : 1 ≤ N ∧ N ≤ 1048560 := by omega
      go_wp2_with fail
      refine (newSt w N hN).mono ?_
      rintro x w1 ⟨rfl, s1, o1⟩
      have hw1 : w.heap.size + 1 < w1.heap.size := by obtain ⟨f, z, k1, _⟩ := s1; exact k1.lt
      have HS := hid s1; have HON := hid o1; clear s1 o1
      go_wp2_with fail
      refine (enew w1 N hN).mono ?_
      rintro x w2 ⟨rfl, e2, o2⟩
      have INV : Hid (PInv w w2 (w.heap.size + 1) w.heap.size w1.heap.size N (w1.heap.size + 1)) := hid ⟨[], HS.out.only o2, ⟨none, 0, e2, Rd.nil _ _ _, fun _ => rfl, by simp, by unfold maxLen; simp, .inl rfl, fun h0 => by simp at h0⟩, HON.out.trans o2, e2.lt⟩
      clear e2 o2 HS HON
      generalize w1.heap.size = ge at *
      go_wp2_with fail
      go_loopw [9] (fun i wr => ∃ j : Nat, j ≤ min len 200 ∧ i = .int .i64 j ∧ Hid (PInv w wr (w.heap.size + 1) w.heap.size ge N (ge + 1))) (fun i _ => 200 - (intOf i).toNat)
      case atStart => exact ⟨0, by omega, rfl, INV⟩
      case round =>
        clear INV
        obtain ⟨j, hj, rfl, INV⟩ := hrel
        obtain ⟨l, hs, he, hon, hsz⟩ := INV.out
        have HS := hid hs; have HE := hid he; have HON := hid hon
        clear hs he hon INV
        have hlN := HS.out.len_le
        by_cases hlt : j < min len 200
        · have hlt1 : j < len := by omega
          have hlt2 : (j : Int) < 200 := by omega
          have hrn : RN j ≤ 6000 := by
            have h1 := totR_le (RN := RN) (show j + 1 ≤ min len 200 from hlt)
            have h2 := HTot.out
            simp only [totR] at h1
            omega
          obtain ⟨bc, oc, rfl, hbc, hcc⟩ := (H.out.only_nil HON.out).cells (by omega)
          obtain ⟨q0, q1, q2, q3⟩ := hcc j hlt1
          have HRD := hid (H.out.rd j hlt1)
          clear hcc
          generalize V0 j = kd at *
          generalize V1 j = va at *
          generalize V2 j = vn at *
          generalize RA j = ra at *
          generalize RN j = rn at *
          generalize RC j = rc at *
          generalize P j = p at *
          by_cases hk1 : kd = 1
          · subst hk1
            have HX : Hid (Ob (wr.alloc (.cells #[.int .i64 1, .int .i64 va, .int .i64 vn, .slice ra rn rc] 34)) wr.heap.size 34 #[.int .i64 1, .int .i64 va, .int .i64 vn, .slice ra rn rc]) := hid (Ob.new _ _ _)
            have oa : Only [] wr (wr.alloc (.cells #[.int .i64 1, .int .i64 va, .int .i64 vn, .slice ra rn rc] 34)) := (Only.refl _ _).alloc _
            have HS := hid (HS.out.only oa)
            have HE := hid (HE.out.onlyS oa (by simp) (by simp))
            have HON := hid (HON.out.trans oa)
            have hsz : ge + 1 ≤ (wr.alloc (.cells #[.int .i64 1, .int .i64 va, .int .i64 vn, .slice ra rn rc] 34)).heap.size := Nat.le_trans hsz oa.size
            have hgx : ge < wr.heap.size := by assumption
            clear oa
            generalize hW0 : wr.alloc (.cells #[.int .i64 1, .int .i64 va, .int .i64 vn, .slice ra rn rc] 34) = W0 at *
            have HW0 := hid hW0; clear hW0
            have hgx2 : wr.heap.size < W0.heap.size := HX.out.lt
            have hrc := HRD.out.1.2.2.2
            go_wp2_with fail
            rw [HW0.out]
            refine (hlp.roomy W0 ra rn rc p (HRD.out.1.1.only_nil HON.out) HRD.out.1.2.1 (by omega)).mono ?_
            rintro x w2 ⟨gb, cb, rfl, hv, o2⟩
            have hgb := hv.base_le
            have hcb := hv.len
            have HE := hid ((HE.out.more [(w.heap.size + 1), w.heap.size, ge, gb] (fun i hi => by simp at hi ⊢; omega)).onlyS o2 (by simp) (by simp))
            have HS := hid (HS.out.only o2); have HX := hid (HX.out.only o2 (by simp)); have HON := hid (HON.out.trans o2); have HV := hid hv
            have HZ : Hid (ge + 1 ≤ w2.heap.size) := hid (Nat.le_trans hsz o2.size)
            clear hv o2
            have HPL := hid HRD.out.1.1.len
            have HPT : Hid (∀ W : World, Own .u8 5 W W0.heap.size (.slice (some ⟨gb, 0, none⟩) (rn + 1) cb) (p ++ [171]) → Rd .u8 W (some ⟨gb, 0, none⟩) rn p) := hid (fun W h => by
              have h5 := h.rd.take rn (by omega)
              rwa [List.take_append_of_le_length (by rw [HPL.out]; exact Nat.le_refl _), List.take_of_length_le (by rw [HPL.out]; exact Nat.le_refl _)] at h5)
            obtain ⟨k, hk⟩ : ∃ k, k = min rn (N - l.length) := ⟨_, rfl⟩
            have HKD := hid hk; clear hk
            have hrnc : (rn : Int) ≤ cb := by omega
            have hcb2 : cb ≤ 9223372036854775807 := by have := hcb.2.2; unfold maxLen at this; omega
            go_wp2_with fail
            refine wp_region_noPanic ?_
            refine rgn.regionT (R := Same wr.heap.size) (by kernel_rfl) (Same.refl wr.heap.size) (Same.trans (g := wr.heap.size)) (fun _ _ _ _ _ h => h) (.y 0 (.y 1 (.y 2 (.y 3 (.y 4 (.y 5 (.y 7 (.y 8 (.y 9 (.e 6 (.e 10 (.y 11 (.y 12 (.y 13 (.y 14 (.y 15 (.e 16 (.y 17 (.e 18 .z))))))))))))))))))) (by kernel_rfl) (fun W hWd => ?_)
            have HWd := hid hWd; clear hWd
            have HS := hid (by have h8 := HS.out; rw [← show w2.drew = W from HWd.out.symm] ; exact h8.only ((Only.refl [] _).drew) : St W (w.heap.size + 1) w.heap.size N l)
            have HE := hid (by have h8 := HE.out; rw [HWd.out]; exact h8.onlyS ((Only.refl [] _).drew) (by simp) (by simp) : Et W ge N _ l)
            have HX := hid (HX.out.eq_drew HWd.out); have HON := hid (HON.out.eq_drew HWd.out)
            have HV : Hid (Own .u8 5 W W0.heap.size (.slice (some ⟨gb, 0, none⟩) (rn + 1) cb) (p ++ [171])) := hid (by rw [HWd.out]; exact HV.out)
            have HZ : Hid (ge + 1 ≤ W.heap.size) := hid (by rw [HWd.out]; exact HZ.out)
            refine rgn.Walk.ys (v := ?_) rfl rfl rfl ?_ ?_
            rotate_left 1
            · intro W' hW'
              go_simp
              try with_reducible rfl
            try simp only [Act.put, List.setIfInBounds_toArray, List.set_cons_zero, List.set_cons_succ]
            refine rgn.Walk.ys (v := ?_) rfl rfl rfl ?_ ?_
            rotate_left 1
            · intro W' hW'
              go_simp
              try with_reducible rfl
            try simp only [Act.put, List.setIfInBounds_toArray, List.set_cons_zero, List.set_cons_succ]
            refine rgn.Walk.ys (v := ?_) rfl rfl rfl ?_ ?_
            rotate_left 1
            · intro W' hW'
              go_simp
              try with_reducible rfl
            try simp only [Act.put, List.setIfInBounds_toArray, List.set_cons_zero, List.set_cons_succ]
            refine rgn.Walk.ys (v := ?_) rfl rfl rfl ?_ ?_
            rotate_left 1
            · intro W' hW'
              have q0 := (show W'.cell? ⟨wr.heap.size, 3, none⟩ = some (.slice ra rn rc) from (HX.out.same hW').cell 3)
              go_simp
              try with_reducible rfl
            try simp only [Act.put, List.setIfInBounds_toArray, List.set_cons_zero, List.set_cons_succ]
            refine rgn.Walk.ys (v := ?_) rfl rfl rfl ?_ ?_
            rotate_left 1
            · intro W' hW'
              go_simp
              try with_reducible rfl
            try simp only [Act.put, List.setIfInBounds_toArray, List.set_cons_zero, List.set_cons_succ]
            refine rgn.Walk.ys (v := ?_) rfl rfl rfl ?_ ?_
            rotate_left 1
            · intro W' hW'
              go_simp
              try with_reducible rfl
            try simp only [Act.put, List.setIfInBounds_toArray, List.set_cons_zero, List.set_cons_succ]
            refine rgn.Walk.ys (v := ?_) rfl rfl rfl ?_ ?_
            rotate_left 1
            · intro W' hW'
              go_simp
              try with_reducible rfl
            try simp only [Act.put, List.setIfInBounds_toArray, List.set_cons_zero, List.set_cons_succ]
            refine rgn.Walk.ys (v := ?_) rfl rfl rfl ?_ ?_
            rotate_left 1
            · intro W' hW'
              go_simp
              try with_reducible rfl
            try simp only [Act.put, List.setIfInBounds_toArray, List.set_cons_zero, List.set_cons_succ]
            refine rgn.Walk.ys (v := ?_) rfl rfl rfl ?_ ?_
            rotate_left 1
            · intro W' hW'
              have q0 := (show W'.cell? ⟨wr.heap.size, 3, none⟩ = some (.slice ra rn rc) from (HX.out.same hW').cell 3)
              go_simp
              try with_reducible rfl
            try simp only [Act.put, List.setIfInBounds_toArray, List.set_cons_zero, List.set_cons_succ]
            refine rgn.Walk.es ?_
            refine rgn.stepE rfl rfl (fun K hK => ?_)
            go_simp
            refine (writeSt _ (w.heap.size + 1) w.heap.size N l p (some ⟨gb, 0, none⟩) rn cb HS.out hN (by omega) (HPT.out _ HV.out) (by omega) (by omega) (fun _ x off e => by injection e with e; injection e with e1 e2; omega) k HKD.out).mono ?_
            rintro x w6 ⟨rfl, s6, o6⟩
            refine hK _ _ (o6.block wr.heap.size HX.out.lt (notin2 (Nat.le_refl _) (by omega) (by omega))) ?_
            clear hK K
            try simp only [Act.put, List.setIfInBounds_toArray, List.set_cons_zero, List.set_cons_succ]
            have HS := hid s6; have HX := hid (HX.out.only o6 (notin2 (Nat.le_refl _) (by omega) (by omega))); have HV := hid (HV.out.only o6 (fun i hi => notin2 (show W0.heap.size ≤ i from (HV.out.lt i hi).1) (by omega) (by omega))); have HE := hid (HE.out.onlyS o6 (by simp; omega) (fun i hi => .inl (by simp at hi ⊢; omega))); have HON := hid (HON.out.fresh o6 (fun i hi => .inr (in2 hi (by omega) (by omega)))); have HZ := hid (Nat.le_trans HZ.out o6.size)
            clear s6 o6
            refine rgn.Walk.es ?_
            refine rgn.stepE rfl rfl (fun K hK => ?_)
            go_simp
            refine (ewriteEt _ ge N _ [(w.heap.size + 1), w.heap.size, ge, gb] l p ra rn rc HE.out hlN (by omega) (HRD.out.1.1.only_nil HON.out) HRD.out.1.2.1 HRD.out.1.2.2.2 HRD.out.1.2.2.1 k HKD.out (fun i hi => by have := HZ.out; have := (HV.out.lt gb rfl).2; simp at hi; omega)).mono ?_
            rintro x w10 ⟨rfl, s10, o10⟩
            refine hK _ _ (o10.block wr.heap.size HX.out.lt (by simp; omega)) ?_
            clear hK K
            try simp only [Act.put, List.setIfInBounds_toArray, List.set_cons_zero, List.set_cons_succ]
            have HE := hid s10; have HX := hid (HX.out.only o10 (by simp; omega)); have HV := hid (HV.out.only o10 (fun i hi => notin1 (show W0.heap.size ≤ i from (HV.out.lt i hi).1) (by omega))); have HS := hid (HS.out.onlyS o10 (by simp; omega) (by simp; omega)); have HON := hid (HON.out.fresh o10 (fun i hi => .inr (in1 hi (by omega)))); have HZ := hid (Nat.le_trans HZ.out o10.size)
            clear s10 o10
            refine rgn.Walk.ys (v := ?_) rfl rfl rfl ?_ ?_
            rotate_left 1
            · intro W' hW'
              go_simp
              try with_reducible rfl
            try simp only [Act.put, List.setIfInBounds_toArray, List.set_cons_zero, List.set_cons_succ]
            refine rgn.Walk.ys (v := ?_) rfl rfl rfl ?_ ?_
            rotate_left 1
            · intro W' hW'
              go_simp
              try with_reducible rfl
            try simp only [Act.put, List.setIfInBounds_toArray, List.set_cons_zero, List.set_cons_succ]
            refine rgn.Walk.ys (v := ?_) rfl rfl rfl ?_ ?_
            rotate_left 1
            · intro W' hW'
              go_simp
              try with_reducible rfl
            try simp only [Act.put, List.setIfInBounds_toArray, List.set_cons_zero, List.set_cons_succ]
            refine rgn.Walk.ys (v := ?_) rfl rfl rfl ?_ ?_
            rotate_left 1
            · intro W' hW'
              go_simp
              try with_reducible rfl
            try simp only [Act.put, List.setIfInBounds_toArray, List.set_cons_zero, List.set_cons_succ]
            refine rgn.Walk.ys (v := ?_) rfl rfl rfl ?_ ?_
            rotate_left 1
            · intro W' hW'
              have q0 := (show W'.cell? ⟨wr.heap.size, 3, none⟩ = some (.slice ra rn rc) from (HX.out.same hW').cell 3)
              go_simp
              try with_reducible rfl
            try simp only [Act.put, List.setIfInBounds_toArray, List.set_cons_zero, List.set_cons_succ]
            refine rgn.Walk.es ?_
            refine rgn.stepE rfl rfl (fun K hK => ?_)
            go_simp
            refine (hlp.stands _ (some ⟨gb, 0, none⟩) ra rn cb rc p HV.out.rd (by omega) (HRD.out.1.1.only_nil HON.out) (by omega)).mono ?_
            rintro x w16 ⟨rfl, q, rfl⟩
            refine hK _ _ rfl ?_
            clear hK K
            try simp only [Act.put, List.setIfInBounds_toArray, List.set_cons_zero, List.set_cons_succ]
            have HS := hid (HS.out.only ((Only.refl [] _).drewN q)); have HE := hid (HE.out.onlyS ((Only.refl [] _).drewN q) (by simp) (by simp)); have HV := hid (HV.out.drewN q); have HON := hid (HON.out.drewN q); have HZ : Hid (ge + 1 ≤ _) := hid (show ge + 1 ≤ (World.drewN _ q).heap.size from HZ.out)
            refine rgn.Walk.ys (v := ?_) rfl rfl rfl ?_ ?_
            rotate_left 1
            · intro W' hW'
              go_simp
              try with_reducible rfl
            try simp only [Act.put, List.setIfInBounds_toArray, List.set_cons_zero, List.set_cons_succ]
            refine rgn.Walk.es ?_
            refine rgn.stepE rfl rfl (fun K hK => ?_)
            go_simp
            refine hK _ _ ((Same.refl wr.heap.size) _) ?_
            clear hK K
            try simp only [Act.put, List.setIfInBounds_toArray, List.set_cons_zero, List.set_cons_succ]
            refine rgn.Walk.zs (NoPanic.normal ?_)
            go_wp2_with fail
            refine (hlp.spoilO _ W0.heap.size (.slice (some ⟨gb, 0, none⟩) (rn + 1) cb) _ HV.out (by have := (HV.out.lt gb rfl).2; omega) (by simp; rw [HPL.out]; omega)).mono ?_
            rintro x w19 ⟨rfl, o19⟩
            have o19 : Only [gb] _ w19 := o19
            have HS := hid (HS.out.onlyS o19 (by simp; omega) (by simp; omega)); have HE := hid (HE.out.onlyS o19 (by simp; omega) (fun i hi => .inl (by simp at hi ⊢; omega))); have HON := hid (HON.out.fresh o19 (fun i hi => .inr (in1 hi (by omega)))); have hszE : ge + 1 ≤ w19.heap.size := Nat.le_trans HZ.out o19.size
            clear o19 HV HX HPT HZ
            obtain ⟨l9, hl9e⟩ : ∃ l9, (l ++ p.take k) = l9 := ⟨_, rfl⟩
            rw [hl9e] at HS HE
            clear hl9e
            have hl9 := HS.out.len_le
            go_wp2_with fail
            refine (lenSt _ (w.heap.size + 1) w.heap.size N l9 HS.out).mono ?_
            rintro x w21 ⟨rfl, rfl⟩
            go_wp2_with fail
            refine (elenEt _ ge N _ l9 HE.out).mono ?_
            rintro x w22 ⟨rfl, rfl⟩
            go_wp2_with fail
            refine (callsOnly (freeSt _ (w.heap.size + 1) w.heap.size N l9 HS.out (by omega))).mono ?_
            rintro x w23 ⟨rfl, o23⟩
            have HS := hid (HS.out.only o23); have HE := hid (HE.out.onlyS o23 (by simp) (by simp)); have HON := hid (HON.out.trans o23); have hszE := Nat.le_trans hszE o23.size; clear o23
            go_wp2_with fail
            refine (callsOnly (efreeEt _ ge N _ l9 HE.out hl9 (by omega))).mono ?_
            rintro x w24 ⟨rfl, o24⟩
            have HS := hid (HS.out.only o24); have HE := hid (HE.out.onlyS o24 (by simp) (by simp)); have HON := hid (HON.out.trans o24); have hszE := Nat.le_trans hszE o24.size; clear o24
            go_wp2_with fail
            refine (lenSt _ (w.heap.size + 1) w.heap.size N l9 HS.out).mono ?_
            rintro x w25 ⟨rfl, rfl⟩
            go_wp2_with fail
            refine (callsOnly (freeSt _ (w.heap.size + 1) w.heap.size N l9 HS.out (by omega))).mono ?_
            rintro x w26 ⟨rfl, o26⟩
            have HS := hid (HS.out.only o26); have HE := hid (HE.out.onlyS o26 (by simp) (by simp)); have HON := hid (HON.out.trans o26); have hszE := Nat.le_trans hszE o26.size; clear o26
            have hsum : (((l9).length : Nat) : Int) + ((N - (l9).length : Nat) : Int) = N := by omega
            have INV : Hid (PInv w _ (w.heap.size + 1) w.heap.size ge N (ge + 1)) := hid ⟨l9, HS.out, HE.out.more [(w.heap.size + 1), w.heap.size, ge] (fun k hk => .inl (by simp at hk ⊢; omega)), HON.out, hszE⟩
            go_wp2
            exact ⟨⟨j + 1, by omega, by go_num, INV⟩, by simp [intOf]; omega⟩
          · by_cases hk2 : kd = 2
            · subst hk2
              have HX : Hid (Ob (wr.alloc (.cells #[.int .i64 2, .int .i64 va, .int .i64 vn, .slice ra rn rc] 34)) wr.heap.size 34 #[.int .i64 2, .int .i64 va, .int .i64 vn, .slice ra rn rc]) := hid (Ob.new _ _ _)
              have oa : Only [] wr (wr.alloc (.cells #[.int .i64 2, .int .i64 va, .int .i64 vn, .slice ra rn rc] 34)) := (Only.refl _ _).alloc _
              have HS := hid (HS.out.only oa)
              have HE := hid (HE.out.onlyS oa (by simp) (by simp))
              have HON := hid (HON.out.trans oa)
              have hsz : ge + 1 ≤ (wr.alloc (.cells #[.int .i64 2, .int .i64 va, .int .i64 vn, .slice ra rn rc] 34)).heap.size := Nat.le_trans hsz oa.size
              have hgx : ge < wr.heap.size := by assumption
              clear oa
              generalize hW0 : wr.alloc (.cells #[.int .i64 2, .int .i64 va, .int .i64 vn, .slice ra rn rc] 34) = W0 at *
              have HW0 := hid hW0; clear hW0
              have hgx2 : wr.heap.size < W0.heap.size := HX.out.lt
              go_wp2_with fail
              rw [HW0.out]
              refine (peekSt W0 (w.heap.size + 1) w.heap.size N l va vn HS.out hN (by omega) (i64Bd HRD.out.2.2.1) (i64Bd HRD.out.2.2.2)).mono ?_
              rintro x w2 ⟨vp, rfl, hvp, o2⟩
              obtain ⟨A2, c2, ev2, hc2, hm2, r2, hb2⟩ := hvp.slice
              subst ev2
              have HV := hid hvp; have R2 := hid r2
              have hvb := fun i hi => (hvp.lt i hi).1
              have HE := hid ((HE.out.more ([(w.heap.size + 1), w.heap.size, ge] ++ (Value.slice A2 (peekL l va vn).length c2).ownBlock.toList) (fun i hi => by rcases List.mem_append.1 hi with h5 | h5; exact .inl h5; exact .inr (hvb i (by simpa using h5)))).onlyS o2 (by simp) (by simp))
              have HS := hid (HS.out.only o2); have HX := hid (HX.out.only o2 (by simp)); have HON := hid (HON.out.trans o2)
              have hsz2 : ge + 1 ≤ w2.heap.size := Nat.le_trans hsz o2.size
              have hz2 : W0.heap.size ≤ w2.heap.size := o2.size
              have hvb2 := hvp.lt
              clear hvp o2 r2 hb2
              have c1 : w2.cell? ⟨wr.heap.size, 1, none⟩ = some (.int .i64 va) := HX.out.cell 1
              have c2' : w2.cell? ⟨wr.heap.size, 2, none⟩ = some (.int .i64 vn) := HX.out.cell 2
              go_wp2_with fail
              refine (epeekEt w2 ge N _ l va vn HE.out (by omega) (i64Bd HRD.out.2.2.1) (i64Bd HRD.out.2.2.2)).mono ?_
              rintro x w3 ⟨vq, rfl, hvq, o3⟩
              obtain ⟨A3, c3, ev3, hc3, hm3, r3, hb3⟩ := hvq.slice
              subst ev3
              have R3 := hid r3
              have R2 := hid (R2.out.only_nil o3); have HV := hid (HV.out.only_nil o3)
              have HS := hid (HS.out.only o3); have HE := hid (HE.out.onlyS o3 (by simp) (by simp)); have HON := hid (HON.out.trans o3)
              have hsz3 : ge + 1 ≤ w3.heap.size := Nat.le_trans hsz2 o3.size
              have hz3 : W0.heap.size ≤ w3.heap.size := Nat.le_trans hz2 o3.size
              clear hvq o3 r3 hb3 c1 c2'
              have hpl : (peekL l va vn).length ≤ 1048560 := by
                unfold peekL
                split
                · simp
                · rw [List.length_take, List.length_drop]; omega
              go_wp2_with fail
              refine (hlp.same w3 A2 A3 _ _ c2 c3 _ _ R2.out R3.out (by omega) (by omega)).mono ?_
              rintro x w4 ⟨rfl, q, rfl⟩
              rw [show decide (peekL l va vn = peekL l va vn) = true from by simp]
              have HS := hid (HS.out.only ((Only.refl [] _).drewN q)); have HE := hid (HE.out.onlyS ((Only.refl [] _).drewN q) (by simp) (by simp)); have HV := hid (HV.out.drewN q); have HON := hid (HON.out.drewN q)
              clear R2 R3
              go_wp2_with fail
              refine (hlp.spoilO _ W0.heap.size (Value.slice A2 (peekL l va vn).length c2) _ HV.out hz3 (by omega)).mono ?_
              rintro x w19 ⟨rfl, o19⟩
              have hne : ∀ i, i ∈ (Value.slice A2 (peekL l va vn).length c2).ownBlock.toList → W0.heap.size ≤ i := fun i hi => hvb i (by simpa using hi)
              have HS := hid (HS.out.onlyS o19 (fun h5 => by have := hne _ h5; omega) (fun h5 => by have := hne _ h5; omega)); have HE := hid (HE.out.onlyS o19 (fun h5 => by have := hne _ h5; omega) (fun i hi => .inl (List.mem_append.2 (.inr hi)))); have HON := hid (HON.out.fresh o19 (fun i hi => .inr (by have := hne _ hi; omega))); have hszE : ge + 1 ≤ w19.heap.size := Nat.le_trans hsz3 o19.size
              clear o19 HV HX
              have hl9 := HS.out.len_le
              go_wp2_with fail
              refine (lenSt _ (w.heap.size + 1) w.heap.size N l HS.out).mono ?_
              rintro x w21 ⟨rfl, rfl⟩
              go_wp2_with fail
              refine (elenEt _ ge N _ l HE.out).mono ?_
              rintro x w22 ⟨rfl, rfl⟩
              go_wp2_with fail
              refine (callsOnly (freeSt _ (w.heap.size + 1) w.heap.size N l HS.out (by omega))).mono ?_
              rintro x w23 ⟨rfl, o23⟩
              have HS := hid (HS.out.only o23); have HE := hid (HE.out.onlyS o23 (by simp) (by simp)); have HON := hid (HON.out.trans o23); have hszE := Nat.le_trans hszE o23.size; clear o23
              go_wp2_with fail
              refine (callsOnly (efreeEt _ ge N _ l HE.out hl9 (by omega))).mono ?_
              rintro x w24 ⟨rfl, o24⟩
              have HS := hid (HS.out.only o24); have HE := hid (HE.out.onlyS o24 (by simp) (by simp)); have HON := hid (HON.out.trans o24); have hszE := Nat.le_trans hszE o24.size; clear o24
              go_wp2_with fail
              refine (lenSt _ (w.heap.size + 1) w.heap.size N l HS.out).mono ?_
              rintro x w25 ⟨rfl, rfl⟩
              go_wp2_with fail
              refine (callsOnly (freeSt _ (w.heap.size + 1) w.heap.size N l HS.out (by omega))).mono ?_
              rintro x w26 ⟨rfl, o26⟩
              have HS := hid (HS.out.only o26); have HE := hid (HE.out.onlyS o26 (by simp) (by simp)); have HON := hid (HON.out.trans o26); have hszE := Nat.le_trans hszE o26.size; clear o26
              have hsum : (((l).length : Nat) : Int) + ((N - (l).length : Nat) : Int) = N := by omega
              have INV : Hid (PInv w _ (w.heap.size + 1) w.heap.size ge N (ge + 1)) := hid ⟨l, HS.out, HE.out.more [(w.heap.size + 1), w.heap.size, ge] (fun k hk => .inl (by simp at hk ⊢; omega)), HON.out, hszE⟩
              go_wp2
              exact ⟨⟨j + 1, by omega, by go_num, INV⟩, by simp [intOf]; omega⟩
            ·
              have HX : Hid (Ob (wr.alloc (.cells #[.int .i64 kd, .int .i64 va, .int .i64 vn, .slice ra rn rc] 34)) wr.heap.size 34 #[.int .i64 kd, .int .i64 va, .int .i64 vn, .slice ra rn rc]) := hid (Ob.new _ _ _)
              have oa : Only [] wr (wr.alloc (.cells #[.int .i64 kd, .int .i64 va, .int .i64 vn, .slice ra rn rc] 34)) := (Only.refl _ _).alloc _
              have HS := hid (HS.out.only oa)
              have HE := hid (HE.out.onlyS oa (by simp) (by simp))
              have HON := hid (HON.out.trans oa)
              have hsz : ge + 1 ≤ (wr.alloc (.cells #[.int .i64 kd, .int .i64 va, .int .i64 vn, .slice ra rn rc] 34)).heap.size := Nat.le_trans hsz oa.size
              have hgx : ge < wr.heap.size := by assumption
              clear oa
              generalize hW0 : wr.alloc (.cells #[.int .i64 kd, .int .i64 va, .int .i64 vn, .slice ra rn rc] 34) = W0 at *
              have HW0 := hid hW0; clear hW0
              have hgx2 : wr.heap.size < W0.heap.size := HX.out.lt
              have HZ : Hid (ge + 1 ≤ W0.heap.size) := hid hsz
              have hk1' : (kd == 1) = false := by simpa using hk1
              have hk2' : (kd == 2) = false := by simpa using hk2
              go_wp2_with fail
              rw [HW0.out]
              refine wp_region_noPanic ?_
              refine rgn.regionT (R := Same wr.heap.size) (by kernel_rfl) (Same.refl wr.heap.size) (Same.trans (g := wr.heap.size)) (fun _ _ _ _ _ h => h) (.y 0 (.y 1 (.y 2 (.y 4 (.y 5 (.y 6 (.e 3 (.e 7 (.y 8 (.e 9 .z)))))))))) (by kernel_rfl) (fun W hWd => ?_)
              have HWd := hid hWd; clear hWd
              have HS := hid (by have h8 := HS.out; rw [HWd.out]; exact h8.only ((Only.refl [] _).drew) : St W (w.heap.size + 1) w.heap.size N l)
              have HE := hid (by have h8 := HE.out; rw [HWd.out]; exact h8.onlyS ((Only.refl [] _).drew) (by simp) (by simp) : Et W ge N _ l)
              have HX := hid (HX.out.eq_drew HWd.out); have HON := hid (HON.out.eq_drew HWd.out)
              have HZ : Hid (ge + 1 ≤ W.heap.size) := hid (by rw [HWd.out]; exact HZ.out)
              refine rgn.Walk.ys (v := ?_) rfl rfl rfl ?_ ?_
              rotate_left 1
              · intro W' hW'
                go_simp
                try with_reducible rfl
              try simp only [Act.put, List.setIfInBounds_toArray, List.set_cons_zero, List.set_cons_succ]
              refine rgn.Walk.ys (v := ?_) rfl rfl rfl ?_ ?_
              rotate_left 1
              · intro W' hW'
                go_simp
                try with_reducible rfl
              try simp only [Act.put, List.setIfInBounds_toArray, List.set_cons_zero, List.set_cons_succ]
              refine rgn.Walk.ys (v := ?_) rfl rfl rfl ?_ ?_
              rotate_left 1
              · intro W' hW'
                have q0 := (show W'.cell? ⟨wr.heap.size, 2, none⟩ = some (.int .i64 vn) from (HX.out.same hW').cell 2)
                go_simp
                try with_reducible rfl
              try simp only [Act.put, List.setIfInBounds_toArray, List.set_cons_zero, List.set_cons_succ]
              refine rgn.Walk.ys (v := ?_) rfl rfl rfl ?_ ?_
              rotate_left 1
              · intro W' hW'
                go_simp
                try with_reducible rfl
              try simp only [Act.put, List.setIfInBounds_toArray, List.set_cons_zero, List.set_cons_succ]
              refine rgn.Walk.ys (v := ?_) rfl rfl rfl ?_ ?_
              rotate_left 1
              · intro W' hW'
                go_simp
                try with_reducible rfl
              try simp only [Act.put, List.setIfInBounds_toArray, List.set_cons_zero, List.set_cons_succ]
              refine rgn.Walk.ys (v := ?_) rfl rfl rfl ?_ ?_
              rotate_left 1
              · intro W' hW'
                have q0 := (show W'.cell? ⟨wr.heap.size, 2, none⟩ = some (.int .i64 vn) from (HX.out.same hW').cell 2)
                go_simp
                try with_reducible rfl
              try simp only [Act.put, List.setIfInBounds_toArray, List.set_cons_zero, List.set_cons_succ]
              refine rgn.Walk.es ?_
              refine rgn.stepE rfl rfl (fun K hK => ?_)
              go_simp
              refine (dropSt _ (w.heap.size + 1) w.heap.size N l vn HS.out hN (by omega) (i64Bd HRD.out.2.2.2)).mono ?_
              rintro x w6 ⟨rfl, s6, o6⟩
              refine hK _ _ (o6.block wr.heap.size HX.out.lt (by simp; omega)) ?_
              clear hK K
              try simp only [Act.put, List.setIfInBounds_toArray, List.set_cons_zero, List.set_cons_succ]
              have HS := hid s6; have HX := hid (HX.out.only o6 (by simp; omega)); have HE := hid (HE.out.onlyS o6 (by simp; omega) (fun i hi => .inl (by simp at hi ⊢; omega))); have HON := hid (HON.out.fresh o6 (fun i hi => .inr (in1 hi (by omega)))); have HZ := hid (Nat.le_trans HZ.out o6.size)
              clear s6 o6
              refine rgn.Walk.es ?_
              refine rgn.stepE rfl rfl (fun K hK => ?_)
              go_simp
              refine (edropEt _ ge N _ l vn HE.out (by omega) (by simp) (i64Bd HRD.out.2.2.2)).mono ?_
              rintro x w10 ⟨rfl, s10, o10⟩
              refine hK _ _ (o10.block wr.heap.size HX.out.lt (by simp; omega)) ?_
              clear hK K
              try simp only [Act.put, List.setIfInBounds_toArray, List.set_cons_zero, List.set_cons_succ]
              have HE := hid s10; have HX := hid (HX.out.only o10 (by simp; omega)); have HS := hid (HS.out.onlyS o10 (by simp; omega) (by simp; omega)); have HON := hid (HON.out.fresh o10 (fun i hi => .inr (in1 hi (by omega)))); have HZ := hid (Nat.le_trans HZ.out o10.size)
              clear s10 o10
              refine rgn.Walk.ys (v := ?_) rfl rfl rfl ?_ ?_
              rotate_left 1
              · intro W' hW'
                go_simp
                try with_reducible rfl
              try simp only [Act.put, List.setIfInBounds_toArray, List.set_cons_zero, List.set_cons_succ]
              refine rgn.Walk.es ?_
              refine rgn.stepE rfl rfl (fun K hK => ?_)
              go_simp
              refine hK _ _ ((Same.refl wr.heap.size) _) ?_
              clear hK K
              try simp only [Act.put, List.setIfInBounds_toArray, List.set_cons_zero, List.set_cons_succ]
              refine rgn.Walk.zs (NoPanic.normal ?_)
              have hszE := HZ.out
              obtain ⟨l9, hl9e⟩ : ∃ l9, (l.drop (dropN l vn)) = l9 := ⟨_, rfl⟩
              rw [hl9e] at HS HE
              clear hl9e
              have hl9 := HS.out.len_le
              go_wp2_with fail
              refine (lenSt _ (w.heap.size + 1) w.heap.size N l9 HS.out).mono ?_
              rintro x w21 ⟨rfl, rfl⟩
              go_wp2_with fail
              refine (elenEt _ ge N _ l9 HE.out).mono ?_
              rintro x w22 ⟨rfl, rfl⟩
              go_wp2_with fail
              refine (callsOnly (freeSt _ (w.heap.size + 1) w.heap.size N l9 HS.out (by omega))).mono ?_
              rintro x w23 ⟨rfl, o23⟩
              have HS := hid (HS.out.only o23); have HE := hid (HE.out.onlyS o23 (by simp) (by simp)); have HON := hid (HON.out.trans o23); have hszE := Nat.le_trans hszE o23.size; clear o23
              go_wp2_with fail
              refine (callsOnly (efreeEt _ ge N _ l9 HE.out hl9 (by omega))).mono ?_
              rintro x w24 ⟨rfl, o24⟩
              have HS := hid (HS.out.only o24); have HE := hid (HE.out.onlyS o24 (by simp) (by simp)); have HON := hid (HON.out.trans o24); have hszE := Nat.le_trans hszE o24.size; clear o24
              go_wp2_with fail
              refine (lenSt _ (w.heap.size + 1) w.heap.size N l9 HS.out).mono ?_
              rintro x w25 ⟨rfl, rfl⟩
              go_wp2_with fail
              refine (callsOnly (freeSt _ (w.heap.size + 1) w.heap.size N l9 HS.out (by omega))).mono ?_
              rintro x w26 ⟨rfl, o26⟩
              have HS := hid (HS.out.only o26); have HE := hid (HE.out.onlyS o26 (by simp) (by simp)); have HON := hid (HON.out.trans o26); have hszE := Nat.le_trans hszE o26.size; clear o26
              have hsum : (((l9).length : Nat) : Int) + ((N - (l9).length : Nat) : Int) = N := by omega
              have INV : Hid (PInv w _ (w.heap.size + 1) w.heap.size ge N (ge + 1)) := hid ⟨l9, HS.out, HE.out.more [(w.heap.size + 1), w.heap.size, ge] (fun k hk => .inl (by simp at hk ⊢; omega)), HON.out, hszE⟩
              go_wp2
              exact ⟨⟨j + 1, by omega, by go_num, INV⟩, by simp [intOf]; omega⟩

        · have hjm : j = min len 200 := by omega
          obtain ⟨A2, c2, k1, k2, k3, k4, k5, k6, k7⟩ := HE.out
          have HO := hid k1; have R2 := hid k2
          have HPK : Hid (peekL l 0 N = l) := hid (by unfold peekL; rw [if_neg (by omega)]; simp only [Int.toNat_zero, List.drop_zero, Int.toNat_natCast]; exact List.take_of_length_le hlN)
          clear k1 k2 k3 k4 k5 k6 k7
          by_cases hl : len ≤ 200
          · have hl1 : ¬ ((j : Int) < len) := by omega
            clear hjm hlt
            go_wp2_with fail
            refine wp_region_noPanic ?_
            refine rgn.regionT (R := Same ge) (by kernel_rfl) (Same.refl ge) (Same.trans (g := ge)) (fun _ _ _ _ _ h => h) (.y 0 (.y 1 (.y 3 (.y 4 (.y 5 (.y 6 (.e 2 (.e 7 (.y 8 (.e 9 (.y 10 (.e 11 .z)))))))))))) (by kernel_rfl) (fun W hWd => ?_)
            have HWd := hid hWd; clear hWd
            have HS := hid (by have h8 := HS.out; rw [HWd.out]; exact h8.only ((Only.refl [] _).drew) : St W (w.heap.size + 1) w.heap.size N l)
            have HO := hid (HO.out.eq_drew HWd.out); have HON := hid (HON.out.eq_drew HWd.out)
            have R2 : Hid (Rd .u8 W A2 l.length l) := hid (by rw [HWd.out]; exact R2.out.drew)
            refine rgn.Walk.ys (v := ?_) rfl rfl rfl ?_ ?_
            rotate_left 1
            · intro W' hW'
              go_simp
              try with_reducible rfl
            try simp only [Act.put, List.setIfInBounds_toArray, List.set_cons_zero, List.set_cons_succ]
            refine rgn.Walk.ys (v := ?_) rfl rfl rfl ?_ ?_
            rotate_left 1
            · intro W' hW'
              go_simp
              try with_reducible rfl
            try simp only [Act.put, List.setIfInBounds_toArray, List.set_cons_zero, List.set_cons_succ]
            refine rgn.Walk.ys (v := ?_) rfl rfl rfl ?_ ?_
            rotate_left 1
            · intro W' hW'
              go_simp
              try with_reducible rfl
            try simp only [Act.put, List.setIfInBounds_toArray, List.set_cons_zero, List.set_cons_succ]
            refine rgn.Walk.ys (v := ?_) rfl rfl rfl ?_ ?_
            rotate_left 1
            · intro W' hW'
              go_simp
              try with_reducible rfl
            try simp only [Act.put, List.setIfInBounds_toArray, List.set_cons_zero, List.set_cons_succ]
            refine rgn.Walk.ys (v := ?_) rfl rfl rfl ?_ ?_
            rotate_left 1
            · intro W' hW'
              go_simp
              try with_reducible rfl
            try simp only [Act.put, List.setIfInBounds_toArray, List.set_cons_zero, List.set_cons_succ]
            refine rgn.Walk.ys (v := ?_) rfl rfl rfl ?_ ?_
            rotate_left 1
            · intro W' hW'
              have q0 := (show W'.cell? ⟨ge, 1, none⟩ = some (.slice A2 l.length c2) from (HO.out.same hW').cell 1)
              go_simp
              try with_reducible rfl
            try simp only [Act.put, List.setIfInBounds_toArray, List.set_cons_zero, List.set_cons_succ]
            refine rgn.Walk.es ?_
            refine rgn.stepE rfl rfl (fun K hK => ?_)
            go_simp
            refine (peekSt _ (w.heap.size + 1) w.heap.size N l 0 N HS.out hN (by omega) (by omega) (by omega)).mono ?_
            rintro x w6 ⟨vp, rfl, hvp, o6⟩
            rw [HPK.out] at hvp
            refine hK _ _ (o6.block ge HO.out.lt (by simp)) ?_
            clear hK K
            try simp only [Act.put, List.setIfInBounds_toArray, List.set_cons_zero, List.set_cons_succ]
            obtain ⟨A3, c3, ev3, hc3, hm3, r3, hb3⟩ := hvp.slice
            have R3 := hid r3; have HON := hid (HON.out.trans o6); have R2 := hid (R2.out.only_nil o6); have HO := hid (HO.out.only o6 (by simp))
            subst ev3
            clear hvp o6 r3 hb3
            refine rgn.Walk.es ?_
            refine rgn.stepE rfl rfl (fun K hK => ?_)
            go_simp
            refine (callsOnly (hlp.same _ A3 A2 _ _ c3 c2 l l R3.out R2.out (by omega) (by omega))).mono ?_
            rintro x w7 ⟨rfl, o7⟩
            rw [show decide (l = l) = true from by simp]
            refine hK _ _ (o7.block ge HO.out.lt (by simp)) ?_
            clear hK K
            try simp only [Act.put, List.setIfInBounds_toArray, List.set_cons_zero, List.set_cons_succ]
            have HON := hid (HON.out.trans o7); have HO := hid (HO.out.only o7 (by simp))
            clear o7
            refine rgn.Walk.ys (v := ?_) rfl rfl rfl ?_ ?_
            rotate_left 1
            · intro W' hW'
              go_simp
              try with_reducible rfl
            try simp only [Act.put, List.setIfInBounds_toArray, List.set_cons_zero, List.set_cons_succ]
            refine rgn.Walk.es ?_
            refine rgn.stepE rfl rfl (fun K hK => ?_)
            go_simp
            refine (ev.known _).mono ?_
            rintro x w8 ⟨rfl, o8⟩
            refine hK _ _ (o8.block ge HO.out.lt (by simp)) ?_
            clear hK K
            try simp only [Act.put, List.setIfInBounds_toArray, List.set_cons_zero, List.set_cons_succ]
            have HON := hid (HON.out.trans o8)
            clear o8
            refine rgn.Walk.ys (v := ?_) rfl rfl rfl ?_ ?_
            rotate_left 1
            · intro W' hW'
              go_simp
              try with_reducible rfl
            try simp only [Act.put, List.setIfInBounds_toArray, List.set_cons_zero, List.set_cons_succ]
            refine rgn.Walk.es ?_
            refine rgn.stepE rfl rfl (fun K hK => ?_)
            go_simp
            refine hK _ _ ((Same.refl ge) _) ?_
            clear hK K
            try simp only [Act.put, List.setIfInBounds_toArray, List.set_cons_zero, List.set_cons_succ]
            refine rgn.Walk.zs (NoPanic.normal ?_)
            go_wp2
            go_ret
            exact ⟨rfl, HON.out⟩
          · have hl1 : ((j : Int) < len) := by omega
            have hl2 : ¬ ((j : Int) < 200) := by omega
            clear hjm hlt
            go_wp2_with fail
            refine wp_region_noPanic ?_
            refine rgn.regionT (R := Same ge) (by kernel_rfl) (Same.refl ge) (Same.trans (g := ge)) (fun _ _ _ _ _ h => h) (.y 0 (.y 1 (.y 3 (.y 4 (.y 5 (.y 6 (.e 2 (.e 7 (.y 8 (.e 9 (.y 10 (.e 11 .z)))))))))))) (by kernel_rfl) (fun W hWd => ?_)
            have HWd := hid hWd; clear hWd
            have HS := hid (by have h8 := HS.out; rw [HWd.out]; exact h8.only ((Only.refl [] _).drew) : St W (w.heap.size + 1) w.heap.size N l)
            have HO := hid (HO.out.eq_drew HWd.out); have HON := hid (HON.out.eq_drew HWd.out)
            have R2 : Hid (Rd .u8 W A2 l.length l) := hid (by rw [HWd.out]; exact R2.out.drew)
            refine rgn.Walk.ys (v := ?_) rfl rfl rfl ?_ ?_
            rotate_left 1
            · intro W' hW'
              go_simp
              try with_reducible rfl
            try simp only [Act.put, List.setIfInBounds_toArray, List.set_cons_zero, List.set_cons_succ]
            refine rgn.Walk.ys (v := ?_) rfl rfl rfl ?_ ?_
            rotate_left 1
            · intro W' hW'
              go_simp
              try with_reducible rfl
            try simp only [Act.put, List.setIfInBounds_toArray, List.set_cons_zero, List.set_cons_succ]
            refine rgn.Walk.ys (v := ?_) rfl rfl rfl ?_ ?_
            rotate_left 1
            · intro W' hW'
              go_simp
              try with_reducible rfl
            try simp only [Act.put, List.setIfInBounds_toArray, List.set_cons_zero, List.set_cons_succ]
            refine rgn.Walk.ys (v := ?_) rfl rfl rfl ?_ ?_
            rotate_left 1
            · intro W' hW'
              go_simp
              try with_reducible rfl
            try simp only [Act.put, List.setIfInBounds_toArray, List.set_cons_zero, List.set_cons_succ]
            refine rgn.Walk.ys (v := ?_) rfl rfl rfl ?_ ?_
            rotate_left 1
            · intro W' hW'
              go_simp
              try with_reducible rfl
            try simp only [Act.put, List.setIfInBounds_toArray, List.set_cons_zero, List.set_cons_succ]
            refine rgn.Walk.ys (v := ?_) rfl rfl rfl ?_ ?_
            rotate_left 1
            · intro W' hW'
              have q0 := (show W'.cell? ⟨ge, 1, none⟩ = some (.slice A2 l.length c2) from (HO.out.same hW').cell 1)
              go_simp
              try with_reducible rfl
            try simp only [Act.put, List.setIfInBounds_toArray, List.set_cons_zero, List.set_cons_succ]
            refine rgn.Walk.es ?_
            refine rgn.stepE rfl rfl (fun K hK => ?_)
            go_simp
            refine (peekSt _ (w.heap.size + 1) w.heap.size N l 0 N HS.out hN (by omega) (by omega) (by omega)).mono ?_
            rintro x w6 ⟨vp, rfl, hvp, o6⟩
            rw [HPK.out] at hvp
            refine hK _ _ (o6.block ge HO.out.lt (by simp)) ?_
            clear hK K
            try simp only [Act.put, List.setIfInBounds_toArray, List.set_cons_zero, List.set_cons_succ]
            obtain ⟨A3, c3, ev3, hc3, hm3, r3, hb3⟩ := hvp.slice
            have R3 := hid r3; have HON := hid (HON.out.trans o6); have R2 := hid (R2.out.only_nil o6); have HO := hid (HO.out.only o6 (by simp))
            subst ev3
            clear hvp o6 r3 hb3
            refine rgn.Walk.es ?_
            refine rgn.stepE rfl rfl (fun K hK => ?_)
            go_simp
            refine (callsOnly (hlp.same _ A3 A2 _ _ c3 c2 l l R3.out R2.out (by omega) (by omega))).mono ?_
            rintro x w7 ⟨rfl, o7⟩
            rw [show decide (l = l) = true from by simp]
            refine hK _ _ (o7.block ge HO.out.lt (by simp)) ?_
            clear hK K
            try simp only [Act.put, List.setIfInBounds_toArray, List.set_cons_zero, List.set_cons_succ]
            have HON := hid (HON.out.trans o7); have HO := hid (HO.out.only o7 (by simp))
            clear o7
            refine rgn.Walk.ys (v := ?_) rfl rfl rfl ?_ ?_
            rotate_left 1
            · intro W' hW'
              go_simp
              try with_reducible rfl
            try simp only [Act.put, List.setIfInBounds_toArray, List.set_cons_zero, List.set_cons_succ]
            refine rgn.Walk.es ?_
            refine rgn.stepE rfl rfl (fun K hK => ?_)
            go_simp
            refine (ev.known _).mono ?_
            rintro x w8 ⟨rfl, o8⟩
            refine hK _ _ (o8.block ge HO.out.lt (by simp)) ?_
            clear hK K
            try simp only [Act.put, List.setIfInBounds_toArray, List.set_cons_zero, List.set_cons_succ]
            have HON := hid (HON.out.trans o8)
            clear o8
            refine rgn.Walk.ys (v := ?_) rfl rfl rfl ?_ ?_
            rotate_left 1
            · intro W' hW'
              go_simp
              try with_reducible rfl
            try simp only [Act.put, List.setIfInBounds_toArray, List.set_cons_zero, List.set_cons_succ]
            refine rgn.Walk.es ?_
            refine rgn.stepE rfl rfl (fun K hK => ?_)
            go_simp
            refine hK _ _ ((Same.refl ge) _) ?_
            clear hK K
            try simp only [Act.put, List.setIfInBounds_toArray, List.set_cons_zero, List.set_cons_succ]
            refine rgn.Walk.zs (NoPanic.normal ?_)
            go_wp2
            go_ret
            exact ⟨rfl, HON.out⟩

    · have hbad : room < 1 ∨ 1048560 < room := by omega
      go_wp2_with fail
      refine (new_bad w room hbad).mono ?_
      rintro x w1 ⟨rfl, rfl⟩
      go_wp2_with fail
      refine (enew_bad _ room hbad).mono ?_
      rintro x w2 ⟨rfl, rfl⟩
      go_wp2_with fail
      refine (ev.known _).mono ?_
      rintro x w3 ⟨rfl, o⟩
      have HB := hid o; clear o
      go_wp2
      go_ret
      exact ⟨rfl, HB.out⟩
end Go.Proofs.Ytbjmckmajpdglaa.rng
