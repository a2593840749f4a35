/-
  Chapter 11 (udp): Free, of the code and of the document, by a walk of each text. Conditions: none but those typed.
-/
import Derived.Test.YtnhakcgkhhficaaPpA
import Derived.BigRegion
import Derived.Test.YtnhakcgkhhficaaOplU
import Derived.Test.YtnhakcgkhhficaaEvP11
import Derived.Deep.RegionHeld3
namespace Go.Proofs.Ytnhakcgkhhficaa.udp
set_option linter.unusedVariables false
set_option linter.unusedSimpArgs false
open Go.ChangeShapes Go.WideShapes Go.ChangeAt Go.RowKit Go.IntWalk Go.Lib
theorem cs_one (x : Bd) : ∀ u ∈ x.cs, u.oneCell' = true := by intro u hu; simp [Bd.cs] at hu; rcases hu with rfl | rfl | rfl | rfl | rfl <;> rfl
theorem ds_one (x : Bd) : ∀ u ∈ x.ds, u.oneCell' = true := by intro u hu; simp [Bd.ds] at hu; rcases hu with rfl | rfl | rfl | rfl | rfl <;> rfl
theorem bcs_one : ∀ L : List Bd, ∀ u ∈ bcs L, u.oneCell' = true
  | [], u, h => by simp [bcs] at h
  | x :: r, u, h => by
    simp only [bcs, List.mem_append] at h
    rcases h with h | h
    · exact cs_one x u h
    · exact bcs_one r u h
theorem dcs_one : ∀ L : List Bd, ∀ u ∈ dcs L, u.oneCell' = true
  | [], u, h => by simp [dcs] at h
  | x :: r, u, h => by
    simp only [dcs, List.mem_append] at h
    rcases h with h | h
    · exact ds_one x u h
    · exact dcs_one r u h
theorem bcs_erase : ∀ (L : List Bd) (k : Nat), k < L.length → bcs (L.eraseIdx k) = (bcs L).take (k * 5) ++ (bcs L).drop ((k + 1) * 5)
  | x :: r, 0, h => by simp [bcs, Bd.cs]
  | x :: r, k + 1, h => by
    have e := bcs_erase r k (by simpa using h)
    rw [show (k + 1) * 5 = 5 + k * 5 from by omega, show (k + 1 + 1) * 5 = 5 + (k + 1) * 5 from by omega]
    simp only [List.eraseIdx_cons_succ, bcs]
    rw [e]
    rw [List.take_append, List.drop_append, List.take_of_length_le (l := x.cs) (by simp [Bd.cs]), List.drop_of_length_le (l := x.cs) (by simp [Bd.cs] <;> omega)]
    simp [Bd.cs]
theorem dcs_erase : ∀ (L : List Bd) (k : Nat), k < L.length → dcs (L.eraseIdx k) = (dcs L).take (k * 5) ++ (dcs L).drop ((k + 1) * 5)
  | x :: r, 0, h => by simp [dcs, Bd.ds]
  | x :: r, k + 1, h => by
    have e := dcs_erase r k (by simpa using h)
    rw [show (k + 1) * 5 = 5 + k * 5 from by omega, show (k + 1 + 1) * 5 = 5 + (k + 1) * 5 from by omega]
    simp only [List.eraseIdx_cons_succ, dcs]
    rw [e]
    rw [List.take_append, List.drop_append, List.take_of_length_le (l := x.ds) (by simp [Bd.ds]), List.drop_of_length_le (l := x.ds) (by simp [Bd.ds] <;> omega)]
    simp [Bd.ds]
/-- What Free answers, and what is bound then. -/
def freeB (L : List Bd) (id : Int) : Bool := decide (0 ≤ spot L id)
def freeS (L : List Bd) (id : Int) : List Bd := if 0 ≤ spot L id then L.eraseIdx (spot L id).toNat else L
theorem freeS_len (L : List Bd) (id : Int) (h : L.length ≤ 64) : (freeS L id).length ≤ 64 := by
  unfold freeS
  split
  · rw [List.length_eraseIdx]; split <;> omega
  · exact h
set_option maxRecDepth 100000 in
set_option maxHeartbeats 2000000 in
theorem freeL (w : World) (g : Nat) (v : Value) (L : List Bd) (id : Int) (h : PV w g v L) (hn : L.length ≤ 64) : Calls Try.prog 17 #[.pointer (some ⟨g, 0, none⟩), .int .i64 id] w fun x w' => x = .returned (.bool (freeB L id)) ∧ PNext w g v (freeS L id) w' := by
  have H := hid h
  have hne := own_neP h.1 h.2
  have HO := hid h.1
  clear h
  have Q : Hid (Only [] w w) := hid (Only.refl _ _)
  have HP := hid (placeL w g _ L id H.out hn)
  rcases spot_cases L id with hk | ⟨k, hkn, hk⟩
  · have HE : Hid (freeB L id = false) := hid (by unfold freeB; rw [hk]; rfl)
    have HS : Hid (freeS L id = L) := hid (by unfold freeS; rw [hk]; rfl)
    rw [hk] at HP
    go_enter Try.func17, Try.ntmps17
    go_wp2_with fail
    refine HP.out.mono ?_
    rintro x w1 ⟨rfl, o1⟩
    have Q := hid (Q.out.trans o1); clear o1
    go_wp2
    go_ret
    exact ⟨rBool HE.out.symm, by rw [HS.out]; exact PNext.same H.out Q.out⟩
  · have HE : Hid (freeB L id = true) := hid (by unfold freeB; rw [hk]; simp)
    have HS : Hid (freeS L id = L.eraseIdx k) := hid (by unfold freeS; rw [hk, if_pos (by omega)]; rfl)
    rw [hk] at HP
    have hkl : (k : Int) < L.length := by omega
    rcases H.out.2.2 with ⟨_, h0⟩ | ⟨b, cap, cur, hv, _, hh, hc, hm, hs, ht⟩
    · omega
    · subst hv
      have gb : g ≠ b := fun e => hne (by simp [Value.ownBlock, e])
      have HCur : Hid (Ob w b 74 cur) := hid hh
      have HT := hid ht; have HSz := hid hs
      have HD := fun W (hW : Ob W b 74 cur) => del1 W b L.length cap k (k + 1) cur hW (by omega) (by omega) hc hm hs (by rw [ht]; exact bcs_one L)
      have HDD := hid HD
      clear hs ht hh HD hk hm
      go_enter Try.func17, Try.ntmps17
      go_wp2_with fail
      refine HP.out.mono ?_
      rintro x w1 ⟨rfl, o1⟩
      have c0 := (HO.out.only o1 (by simp)).cell 0
      have HO := hid (HO.out.only o1 (by simp)); have HCur := hid (HCur.out.only o1 (by simp)); have Q := hid (Q.out.trans o1); clear o1
      go_wp2_with fail
      refine (HDD.out w1 HCur.out).mono ?_
      rintro x w2 ⟨rfl, cur2, ho2, hs2, ht2, o2⟩
      have HO2 := hid (HO.out.only o2 (by simpa using gb))
      have c1 := HO2.out.cell 0
      have f1 := HO2.out.frozen 0
      have HC2 := hid ho2; have HS2 := hid hs2; have HT2 := hid ht2; have HQ2 := hid o2
      clear ho2 hs2 ht2 o2 c0
      go_wp2
      go_ret
      refine ⟨rBool HE.out.symm, .slice (some ⟨b, 0, none⟩) (k + (L.length - (k + 1))) cap, ⟨HO2.out.set 0 _, ?_⟩, fun b' hb' => .inl hb', ?_⟩
      · rw [HS.out]
        have hl : (L.eraseIdx k).length = k + (L.length - (k + 1)) := by rw [List.length_eraseIdx, if_pos hkn]; omega
        rw [hl]
        refine ⟨by rw [bcs_len, hl], .inr ⟨b, cap, cur2, rfl, by omega, HC2.out.far (p := ⟨g, 0, none⟩) (fun e => gb e.symm) _, by omega, H.out.2.2.elim (fun h => absurd h.1 (by simp)) (fun ⟨b', cap', cur', hv', _, _, _, hm', _⟩ => by injection hv' with _ _ hv'; subst hv'; exact hm'), HS2.out, ?_⟩⟩
        rw [HT2.out, bcs_erase L k hkn, ← HT.out]
        congr 1
        rw [List.take_take, Nat.min_eq_left (by omega)]
      · exact ((Only.wide Q.out).trans (HQ2.out.more (by simp [Value.ownBlock]))).setCell (p := ⟨g, 0, none⟩) (.inl (by simp)) _
theorem plcElem : ElemS Try.prog 58 110 (.agg #[.int .i64 0, .int .i64 0, .int .u32 0, .int .u32 0, .int .i64 0]) 5 32 := ⟨Try.underlying58, by kernel_rfl, rfl, by omega⟩
set_option maxRecDepth 100000 in
set_option maxHeartbeats 2000000 in
theorem freeD (w : World) (g : Nat) (v : Value) (L : List Bd) (id : Int) (h : PE w g v L) (hn : L.length ≤ 64) : Calls Try.prog 48 #[.pointer (some ⟨g, 0, none⟩), .int .i64 id] w fun x w' => x = .returned (.bool (freeB L id)) ∧ DNext w g v (freeS L id) w' := by
  have H := hid h
  have HO := hid h.1
  have HP := hid (spotD w g _ L id h hn)
  have Q : Hid (Only [] w w) := hid (Only.refl _ _)
  rcases spot_cases L id with hk | ⟨k, hkn, hk⟩
  · have HE : Hid (freeB L id = false) := hid (by unfold freeB; rw [hk]; rfl)
    have HS : Hid (freeS L id = L) := hid (by unfold freeS; rw [hk]; rfl)
    rw [hk] at HP
    clear h
    go_enter Try.func48, Try.ntmps48
    go_wp2_with fail
    refine HP.out.mono ?_
    rintro x w1 ⟨rfl, o1⟩
    have Q := hid (Q.out.trans o1); clear o1
    go_wp2
    go_ret
    exact ⟨rBool HE.out.symm, by rw [HS.out]; exact DNext.same H.out Q.out⟩
  · have HE : Hid (freeB L id = true) := hid (by unfold freeB; rw [hk]; simp)
    have HS : Hid (freeS L id = L.eraseIdx k) := hid (by unfold freeS; rw [hk, if_pos (by omega)]; rfl)
    have HD' := hid (dcs_erase L k hkn)
    have HL' : Hid ((L.eraseIdx k).length = k + (L.length - (k + 1))) := hid (by rw [List.length_eraseIdx, if_pos hkn]; omega)
    rw [hk] at HP
    have hkl : (k : Int) < L.length := by omega
    obtain ⟨A, cap, rfl, hnc, hcm, hA0, HR0, hbk, hsh⟩ := RdS.of_own h.2 (dcs_one L)
    rcases hsh with rfl | ⟨b, rfl⟩
    · exfalso; have := hA0 rfl; omega
    · have HR := hid HR0
      have hcm2 : cap ≤ 9223372036854775807 := by unfold maxLen at hcm; omega
      obtain ⟨A2, HA2, HR2, HAS⟩ : ∃ A2 : Option Addr, Hid ((if cap = k + 1 then (some ⟨b, 0, none⟩ : Option Addr) else some ⟨b, (k + 1) * 5, none⟩) = A2) ∧ Hid (RdS w A2 (L.length - (k + 1)) 5 ((dcs L).drop ((k + 1) * 5))) ∧ Hid (∃ b off, A2 = some ⟨b, off, none⟩) := by
        by_cases hc : cap = k + 1
        · exact ⟨_, hid (if_pos hc), hid (HR0.dropIf (k + 1) (by omega) hnc (.inl ⟨rfl, hc⟩)), hid ⟨_, _, rfl⟩⟩
        · exact ⟨_, hid (if_neg hc), hid (HR0.dropIf (k + 1) (by omega) hnc (.inr (by rw [Nat.zero_add]))), hid ⟨_, _, rfl⟩⟩
      clear h HR0 hbk hA0 hk hcm
      generalize hnn : L.length = n at *
      have HNN := hid hnn; clear hnn
      have hkc : k ≤ cap := by omega
      have hkc1 : k + 1 ≤ cap := by omega
      have hkz : (k : Int) + 1 ≤ cap := by omega
      go_enter Try.func48, Try.ntmps48
      go_wp2_with fail
      refine HP.out.mono ?_
      rintro x w1 ⟨rfl, o1⟩
      have Q := hid (Q.out.trans o1); clear o1
      go_wp2_with fail
      refine wp_region_noPanic ?_
      refine rgn.regionT (R := AnyW) (by kernel_rfl) (fun _ => AnyW.any _ _) (fun _ _ _ _ _ => AnyW.any _ _) (fun _ _ _ _ _ h => h) (.y 0 (.y 2 (.y 3 (.y 4 (.y 6 (.y 9 (.y 10 (.y 11 (.y 13 (.y 14 (.c 1 5 12 (.b 5 12 (.y 7 (.b 8 12 (.e 12 (.y 15 (.e 16 (.y 17 (.y 18 (.e 19 .z)))))) (.y 15 (.e 8 (.e 16 (.y 17 (.y 18 (.e 19 .z)))))))) (.y 15 (.e 5 (.y 7 (.e 8 (.e 16 (.y 17 (.y 18 (.e 19 .z))))))))) (.y 7 (.b 1 12 (.b 8 12 (.e 12 (.y 15 (.e 16 (.y 17 (.y 18 (.e 19 .z)))))) (.y 15 (.e 8 (.e 16 (.y 17 (.y 18 (.e 19 .z))))))) (.y 15 (.e 1 (.e 8 (.e 16 (.y 17 (.y 18 (.e 19 .z))))))))) (.y 15 (.b 1 5 (.e 5 (.y 7 (.e 8 (.e 16 (.y 17 (.y 18 (.e 19 .z))))))) (.y 7 (.e 1 (.e 8 (.e 16 (.y 17 (.y 18 (.e 19 .z)))))))))))))))))))) (by kernel_rfl) (fun W hWd => ?_)
      have HWd := hid hWd; clear hWd
      have HB := hid (Only.eq_drew Q.out HWd.out)
      refine rgn.Walk.ys (v := ?_) rfl rfl rfl ?_ ?_
      rotate_left 1
      · intro W' hW'
        go_simp
        try with_reducible rfl
      try simp only [Act.put, List.setIfInBounds_toArray, List.set_cons_zero, List.set_cons_succ]
      refine rgn.Walk.ys (v := ?_) rfl rfl rfl ?_ ?_
      rotate_left 1
      · intro W' hW'
        go_simp
        try with_reducible rfl
      try simp only [Act.put, List.setIfInBounds_toArray, List.set_cons_zero, List.set_cons_succ]
      refine rgn.Walk.ys (v := ?_) rfl rfl rfl ?_ ?_
      rotate_left 1
      · intro W' hW'
        go_simp
        try with_reducible rfl
      try simp only [Act.put, List.setIfInBounds_toArray, List.set_cons_zero, List.set_cons_succ]
      refine rgn.Walk.ys (v := ?_) rfl rfl rfl ?_ ?_
      rotate_left 1
      · intro W' hW'
        go_simp
        try with_reducible rfl
      try simp only [Act.put, List.setIfInBounds_toArray, List.set_cons_zero, List.set_cons_succ]
      refine rgn.Walk.ys (v := ?_) rfl rfl rfl ?_ ?_
      rotate_left 1
      · intro W' hW'
        go_simp
        try with_reducible rfl
      try simp only [Act.put, List.setIfInBounds_toArray, List.set_cons_zero, List.set_cons_succ]
      refine rgn.Walk.ys (v := ?_) rfl rfl rfl ?_ ?_
      rotate_left 1
      · intro W' hW'
        go_simp
        try with_reducible rfl
      try simp only [Act.put, List.setIfInBounds_toArray, List.set_cons_zero, List.set_cons_succ]
      refine rgn.Walk.ys (v := ?_) rfl rfl rfl ?_ ?_
      rotate_left 1
      · intro W' hW'
        go_simp
        try with_reducible rfl
      try simp only [Act.put, List.setIfInBounds_toArray, List.set_cons_zero, List.set_cons_succ]
      refine rgn.Walk.ys (v := ?_) rfl rfl rfl ?_ ?_
      rotate_left 1
      · intro W' hW'
        go_simp
        try with_reducible rfl
      try simp only [Act.put, List.setIfInBounds_toArray, List.set_cons_zero, List.set_cons_succ]
      refine rgn.Walk.ys (v := ?_) rfl rfl rfl ?_ ?_
      rotate_left 1
      · intro W' hW'
        go_simp
        try with_reducible rfl
      try simp only [Act.put, List.setIfInBounds_toArray, List.set_cons_zero, List.set_cons_succ]
      refine rgn.Walk.ys (v := ?_) rfl rfl rfl ?_ ?_
      rotate_left 1
      · intro W' hW'
        go_simp
        rw [i64_in _ (by omega)]
        try with_reducible rfl
      try simp only [Act.put, List.setIfInBounds_toArray, List.set_cons_zero, List.set_cons_succ]
      refine rgn.Walk.cs ?_ ?_ ?_
      · refine rgn.stepE rfl rfl (fun K hK => ?_)
        go_simp
        refine hK _ _ (AnyW.any _ _) ?_
        clear hK K
        try simp only [Act.put, List.setIfInBounds_toArray, List.set_cons_zero, List.set_cons_succ]
        have V0 := hid (own_empty _ 110 5 w.heap.size HB.out.size); have HB := hid (HB.out.alloc (.cells #[] 110))
        refine rgn.Walk.bs ?_ ?_
        · refine rgn.stepE rfl rfl (fun K hK => ?_)
          have qq : World.cell? _ ⟨g, 0, none⟩ = some (.slice (some ⟨b, 0, none⟩) n cap) := (HO.out.only HB.out (by simp)).cell 0
          go_simp
          refine hK _ _ (AnyW.any _ _) ?_
          clear hK K qq
          try simp only [Act.put, List.setIfInBounds_toArray, List.set_cons_zero, List.set_cons_succ]
          refine rgn.Walk.ys (v := ?_) rfl rfl rfl ?_ ?_
          rotate_left 1
          · intro W' hW'
            go_simp
            try with_reducible rfl
          try simp only [Act.put, List.setIfInBounds_toArray, List.set_cons_zero, List.set_cons_succ]
          refine rgn.Walk.bs ?_ ?_
          · refine rgn.stepE rfl rfl (fun K hK => ?_)
            refine opAppS _ rfl (.tmp 12) (.tmp 18) _ rfl plcElem w.heap.size _ 0 [] (by first | rfl | go_simp) V0.out (some ⟨b, 0, none⟩) k cap ((dcs L).take (k * 5)) (by first | rfl | go_simp) ((HR.out.only_nil HB.out).take k (by omega)) (by simp) (.inr ⟨_, _, rfl⟩) (by omega) (by unfold maxLen; omega) HB.out.size ?_
            intro v1 w2 hv hg hb
            refine hK _ _ (AnyW.any _ _) ?_
            clear hK K
            try simp only [Act.put, List.setIfInBounds_toArray, List.set_cons_zero, List.set_cons_succ]
            have HB := hid (HB.out.of_grown hg (fun k hk => .inr (V0.out.lt k hk).1)); have V1 : Hid (w2.ownsRow w.heap.size 110 5 v1 k ((dcs L).take (k * 5))) := hid (by simpa using hv); clear hv hg hb V0
            refine rgn.Walk.es ?_
            refine rgn.stepE rfl rfl (fun K hK => ?_)
            have qq : World.cell? _ ⟨g, 0, none⟩ = some (.slice (some ⟨b, 0, none⟩) n cap) := (HO.out.only HB.out (by simp)).cell 0
            go_simp
            refine hK _ _ (AnyW.any _ _) ?_
            clear hK K qq
            try simp only [Act.put, List.setIfInBounds_toArray, List.set_cons_zero, List.set_cons_succ]
            refine rgn.Walk.ys (v := ?_) rfl rfl rfl ?_ ?_
            rotate_left 1
            · intro W' hW'
              go_simp
              rw [if_pos ⟨by omega, by omega⟩]
              try with_reducible rfl
            try simp only [Act.put, List.setIfInBounds_toArray, List.set_cons_zero, List.set_cons_succ]
            refine rgn.Walk.es ?_
            refine rgn.stepE rfl rfl (fun K hK => ?_)
            refine opAppS _ rfl (.tmp 19) (.tmp 26) _ rfl plcElem w.heap.size _ k _ (by first | rfl | go_simp) V1.out A2 (n - (k + 1)) (cap - (k + 1)) ((dcs L).drop ((k + 1) * 5)) (by first | rfl | (rw [← HA2.out]; go_simp)) (HR2.out.only_nil HB.out) (by intro e; obtain ⟨_, _, e2⟩ := HAS.out; rw [e2] at e; cases e) (.inr HAS.out) (by omega) (by unfold maxLen; omega) HB.out.size ?_
            intro v2 w3 hv hg hb
            refine hK _ _ (AnyW.any _ _) ?_
            clear hK K
            try simp only [Act.put, List.setIfInBounds_toArray, List.set_cons_zero, List.set_cons_succ]
            have HB := hid (HB.out.of_grown hg (fun k hk => .inr (V1.out.lt k hk).1)); have V2 := hid hv; clear hv hg hb V1
            refine rgn.Walk.ys (v := ?_) rfl rfl rfl ?_ ?_
            rotate_left 1
            · intro W' hW'
              go_simp
              try with_reducible rfl
            try simp only [Act.put, List.setIfInBounds_toArray, List.set_cons_zero, List.set_cons_succ]
            refine rgn.Walk.ys (v := ?_) rfl rfl rfl ?_ ?_
            rotate_left 1
            · intro W' hW'
              go_simp
              try with_reducible rfl
            try simp only [Act.put, List.setIfInBounds_toArray, List.set_cons_zero, List.set_cons_succ]
            refine rgn.Walk.es ?_
            refine rgn.stepE rfl rfl (fun K hK => ?_)
            have qq : World.cell? _ ⟨g, 0, none⟩ = some (.slice (some ⟨b, 0, none⟩) n cap) := (HO.out.only HB.out (by simp)).cell 0
            have ff := (HO.out.only HB.out (by simp)).frozen 0
            obtain ⟨A3, c3, ev3, hc3, hm3, hn3, r3, hb3, hs3⟩ := RdS.of_own V2.out (by intro u hu; simp only [List.mem_append] at hu; rcases hu with hu | hu; exact dcs_one L u (List.mem_of_mem_take hu); exact dcs_one L u (List.mem_of_mem_drop hu))
            clear hc3 hm3 hn3 r3 hb3 hs3
            rw [ev3]
            go_simp
            refine hK _ _ (AnyW.any _ _) ?_
            clear hK K qq ff
            try simp only [Act.put, List.setIfInBounds_toArray, List.set_cons_zero, List.set_cons_succ]
            have EV3 := hid ev3; clear ev3
            refine rgn.Walk.zs (NoPanic.normal ?_)
            have V3 := hid (own_mono V2.out (Nat.zero_le _))
            rw [EV3.out] at V3
            have V4 := hid (own_only V3.out ((Only.refl [g] _).setCell (p := ⟨g, 0, none⟩) (.inl (by simp)) (.slice A3 (k + (n - (k + 1))) c3)) (fun b' hb' hm => own_neD (HO.out.only HB.out (by simp)) V3.out (by rw [hb', show b' = g from by simpa using hm])))
            have HO3 := hid ((HO.out.only HB.out (by simp)).set 0 (.slice A3 (k + (n - (k + 1))) c3))
            have HQ3 := hid ((Only.wide (S := g :: (Value.slice (some ⟨b, 0, none⟩) n cap).ownBlock.toList) HB.out).setCell (p := ⟨g, 0, none⟩) (.inl (by simp)) (.slice A3 (k + (n - (k + 1))) c3))
            have HLow : Hid (∀ b', (Value.slice A3 (k + (n - (k + 1))) c3).ownBlock = some b' → w.heap.size ≤ b') := hid (fun b' hb' => ((V2.out.lt b' (by rw [EV3.out]; exact hb')).1))
            have HFin : Hid (DNext w g (.slice (some ⟨b, 0, none⟩) n cap) (freeS L id) _) := hid ⟨_, ⟨HO3.out, by rw [HS.out, HL'.out, HD'.out]; exact V4.out⟩, fun b' hb' => .inr (HLow.out b' hb'), HQ3.out⟩
            go_wp2
            all_goals go_ret
            all_goals first | exact ⟨rBool HE.out.symm, HFin.out⟩ | (have h9 := HFin.out; rw [‹cap = k + 1›] at h9; exact ⟨rBool HE.out.symm, h9⟩)
          · refine rgn.stepE rfl rfl (fun K hK => ?_)
            have qq : World.cell? _ ⟨g, 0, none⟩ = some (.slice (some ⟨b, 0, none⟩) n cap) := (HO.out.only HB.out (by simp)).cell 0
            go_simp
            refine hK _ _ (AnyW.any _ _) ?_
            clear hK K qq
            try simp only [Act.put, List.setIfInBounds_toArray, List.set_cons_zero, List.set_cons_succ]
            refine rgn.Walk.ys (v := ?_) rfl rfl rfl ?_ ?_
            rotate_left 1
            · intro W' hW'
              go_simp
              rw [if_pos ⟨by omega, by omega⟩]
              try with_reducible rfl
            try simp only [Act.put, List.setIfInBounds_toArray, List.set_cons_zero, List.set_cons_succ]
            refine rgn.Walk.es ?_
            refine rgn.stepE rfl rfl (fun K hK => ?_)
            refine opAppS _ rfl (.tmp 12) (.tmp 18) _ rfl plcElem w.heap.size _ 0 [] (by first | rfl | go_simp) V0.out (some ⟨b, 0, none⟩) k cap ((dcs L).take (k * 5)) (by first | rfl | go_simp) ((HR.out.only_nil HB.out).take k (by omega)) (by simp) (.inr ⟨_, _, rfl⟩) (by omega) (by unfold maxLen; omega) HB.out.size ?_
            intro v1 w2 hv hg hb
            refine hK _ _ (AnyW.any _ _) ?_
            clear hK K
            try simp only [Act.put, List.setIfInBounds_toArray, List.set_cons_zero, List.set_cons_succ]
            have HB := hid (HB.out.of_grown hg (fun k hk => .inr (V0.out.lt k hk).1)); have V1 : Hid (w2.ownsRow w.heap.size 110 5 v1 k ((dcs L).take (k * 5))) := hid (by simpa using hv); clear hv hg hb V0
            refine rgn.Walk.es ?_
            refine rgn.stepE rfl rfl (fun K hK => ?_)
            refine opAppS _ rfl (.tmp 19) (.tmp 26) _ rfl plcElem w.heap.size _ k _ (by first | rfl | go_simp) V1.out A2 (n - (k + 1)) (cap - (k + 1)) ((dcs L).drop ((k + 1) * 5)) (by first | rfl | (rw [← HA2.out]; go_simp)) (HR2.out.only_nil HB.out) (by intro e; obtain ⟨_, _, e2⟩ := HAS.out; rw [e2] at e; cases e) (.inr HAS.out) (by omega) (by unfold maxLen; omega) HB.out.size ?_
            intro v2 w3 hv hg hb
            refine hK _ _ (AnyW.any _ _) ?_
            clear hK K
            try simp only [Act.put, List.setIfInBounds_toArray, List.set_cons_zero, List.set_cons_succ]
            have HB := hid (HB.out.of_grown hg (fun k hk => .inr (V1.out.lt k hk).1)); have V2 := hid hv; clear hv hg hb V1
            refine rgn.Walk.ys (v := ?_) rfl rfl rfl ?_ ?_
            rotate_left 1
            · intro W' hW'
              go_simp
              try with_reducible rfl
            try simp only [Act.put, List.setIfInBounds_toArray, List.set_cons_zero, List.set_cons_succ]
            refine rgn.Walk.ys (v := ?_) rfl rfl rfl ?_ ?_
            rotate_left 1
            · intro W' hW'
              go_simp
              try with_reducible rfl
            try simp only [Act.put, List.setIfInBounds_toArray, List.set_cons_zero, List.set_cons_succ]
            refine rgn.Walk.es ?_
            refine rgn.stepE rfl rfl (fun K hK => ?_)
            have qq : World.cell? _ ⟨g, 0, none⟩ = some (.slice (some ⟨b, 0, none⟩) n cap) := (HO.out.only HB.out (by simp)).cell 0
            have ff := (HO.out.only HB.out (by simp)).frozen 0
            obtain ⟨A3, c3, ev3, hc3, hm3, hn3, r3, hb3, hs3⟩ := RdS.of_own V2.out (by intro u hu; simp only [List.mem_append] at hu; rcases hu with hu | hu; exact dcs_one L u (List.mem_of_mem_take hu); exact dcs_one L u (List.mem_of_mem_drop hu))
            clear hc3 hm3 hn3 r3 hb3 hs3
            rw [ev3]
            go_simp
            refine hK _ _ (AnyW.any _ _) ?_
            clear hK K qq ff
            try simp only [Act.put, List.setIfInBounds_toArray, List.set_cons_zero, List.set_cons_succ]
            have EV3 := hid ev3; clear ev3
            refine rgn.Walk.zs (NoPanic.normal ?_)
            have V3 := hid (own_mono V2.out (Nat.zero_le _))
            rw [EV3.out] at V3
            have V4 := hid (own_only V3.out ((Only.refl [g] _).setCell (p := ⟨g, 0, none⟩) (.inl (by simp)) (.slice A3 (k + (n - (k + 1))) c3)) (fun b' hb' hm => own_neD (HO.out.only HB.out (by simp)) V3.out (by rw [hb', show b' = g from by simpa using hm])))
            have HO3 := hid ((HO.out.only HB.out (by simp)).set 0 (.slice A3 (k + (n - (k + 1))) c3))
            have HQ3 := hid ((Only.wide (S := g :: (Value.slice (some ⟨b, 0, none⟩) n cap).ownBlock.toList) HB.out).setCell (p := ⟨g, 0, none⟩) (.inl (by simp)) (.slice A3 (k + (n - (k + 1))) c3))
            have HLow : Hid (∀ b', (Value.slice A3 (k + (n - (k + 1))) c3).ownBlock = some b' → w.heap.size ≤ b') := hid (fun b' hb' => ((V2.out.lt b' (by rw [EV3.out]; exact hb')).1))
            have HFin : Hid (DNext w g (.slice (some ⟨b, 0, none⟩) n cap) (freeS L id) _) := hid ⟨_, ⟨HO3.out, by rw [HS.out, HL'.out, HD'.out]; exact V4.out⟩, fun b' hb' => .inr (HLow.out b' hb'), HQ3.out⟩
            go_wp2
            all_goals go_ret
            all_goals first | exact ⟨rBool HE.out.symm, HFin.out⟩ | (have h9 := HFin.out; rw [‹cap = k + 1›] at h9; exact ⟨rBool HE.out.symm, h9⟩)
        · refine rgn.stepE rfl rfl (fun K hK => ?_)
          have qq : World.cell? _ ⟨g, 0, none⟩ = some (.slice (some ⟨b, 0, none⟩) n cap) := (HO.out.only HB.out (by simp)).cell 0
          go_simp
          refine hK _ _ (AnyW.any _ _) ?_
          clear hK K qq
          try simp only [Act.put, List.setIfInBounds_toArray, List.set_cons_zero, List.set_cons_succ]
          refine rgn.Walk.ys (v := ?_) rfl rfl rfl ?_ ?_
          rotate_left 1
          · intro W' hW'
            go_simp
            rw [if_pos ⟨by omega, by omega⟩]
            try with_reducible rfl
          try simp only [Act.put, List.setIfInBounds_toArray, List.set_cons_zero, List.set_cons_succ]
          refine rgn.Walk.es ?_
          refine rgn.stepE rfl rfl (fun K hK => ?_)
          have qq : World.cell? _ ⟨g, 0, none⟩ = some (.slice (some ⟨b, 0, none⟩) n cap) := (HO.out.only HB.out (by simp)).cell 0
          go_simp
          refine hK _ _ (AnyW.any _ _) ?_
          clear hK K qq
          try simp only [Act.put, List.setIfInBounds_toArray, List.set_cons_zero, List.set_cons_succ]
          refine rgn.Walk.ys (v := ?_) rfl rfl rfl ?_ ?_
          rotate_left 1
          · intro W' hW'
            go_simp
            try with_reducible rfl
          try simp only [Act.put, List.setIfInBounds_toArray, List.set_cons_zero, List.set_cons_succ]
          refine rgn.Walk.es ?_
          refine rgn.stepE rfl rfl (fun K hK => ?_)
          refine opAppS _ rfl (.tmp 12) (.tmp 18) _ rfl plcElem w.heap.size _ 0 [] (by first | rfl | go_simp) V0.out (some ⟨b, 0, none⟩) k cap ((dcs L).take (k * 5)) (by first | rfl | go_simp) ((HR.out.only_nil HB.out).take k (by omega)) (by simp) (.inr ⟨_, _, rfl⟩) (by omega) (by unfold maxLen; omega) HB.out.size ?_
          intro v1 w2 hv hg hb
          refine hK _ _ (AnyW.any _ _) ?_
          clear hK K
          try simp only [Act.put, List.setIfInBounds_toArray, List.set_cons_zero, List.set_cons_succ]
          have HB := hid (HB.out.of_grown hg (fun k hk => .inr (V0.out.lt k hk).1)); have V1 : Hid (w2.ownsRow w.heap.size 110 5 v1 k ((dcs L).take (k * 5))) := hid (by simpa using hv); clear hv hg hb V0
          refine rgn.Walk.es ?_
          refine rgn.stepE rfl rfl (fun K hK => ?_)
          refine opAppS _ rfl (.tmp 19) (.tmp 26) _ rfl plcElem w.heap.size _ k _ (by first | rfl | go_simp) V1.out A2 (n - (k + 1)) (cap - (k + 1)) ((dcs L).drop ((k + 1) * 5)) (by first | rfl | (rw [← HA2.out]; go_simp)) (HR2.out.only_nil HB.out) (by intro e; obtain ⟨_, _, e2⟩ := HAS.out; rw [e2] at e; cases e) (.inr HAS.out) (by omega) (by unfold maxLen; omega) HB.out.size ?_
          intro v2 w3 hv hg hb
          refine hK _ _ (AnyW.any _ _) ?_
          clear hK K
          try simp only [Act.put, List.setIfInBounds_toArray, List.set_cons_zero, List.set_cons_succ]
          have HB := hid (HB.out.of_grown hg (fun k hk => .inr (V1.out.lt k hk).1)); have V2 := hid hv; clear hv hg hb V1
          refine rgn.Walk.ys (v := ?_) rfl rfl rfl ?_ ?_
          rotate_left 1
          · intro W' hW'
            go_simp
            try with_reducible rfl
          try simp only [Act.put, List.setIfInBounds_toArray, List.set_cons_zero, List.set_cons_succ]
          refine rgn.Walk.ys (v := ?_) rfl rfl rfl ?_ ?_
          rotate_left 1
          · intro W' hW'
            go_simp
            try with_reducible rfl
          try simp only [Act.put, List.setIfInBounds_toArray, List.set_cons_zero, List.set_cons_succ]
          refine rgn.Walk.es ?_
          refine rgn.stepE rfl rfl (fun K hK => ?_)
          have qq : World.cell? _ ⟨g, 0, none⟩ = some (.slice (some ⟨b, 0, none⟩) n cap) := (HO.out.only HB.out (by simp)).cell 0
          have ff := (HO.out.only HB.out (by simp)).frozen 0
          obtain ⟨A3, c3, ev3, hc3, hm3, hn3, r3, hb3, hs3⟩ := RdS.of_own V2.out (by intro u hu; simp only [List.mem_append] at hu; rcases hu with hu | hu; exact dcs_one L u (List.mem_of_mem_take hu); exact dcs_one L u (List.mem_of_mem_drop hu))
          clear hc3 hm3 hn3 r3 hb3 hs3
          rw [ev3]
          go_simp
          refine hK _ _ (AnyW.any _ _) ?_
          clear hK K qq ff
          try simp only [Act.put, List.setIfInBounds_toArray, List.set_cons_zero, List.set_cons_succ]
          have EV3 := hid ev3; clear ev3
          refine rgn.Walk.zs (NoPanic.normal ?_)
          have V3 := hid (own_mono V2.out (Nat.zero_le _))
          rw [EV3.out] at V3
          have V4 := hid (own_only V3.out ((Only.refl [g] _).setCell (p := ⟨g, 0, none⟩) (.inl (by simp)) (.slice A3 (k + (n - (k + 1))) c3)) (fun b' hb' hm => own_neD (HO.out.only HB.out (by simp)) V3.out (by rw [hb', show b' = g from by simpa using hm])))
          have HO3 := hid ((HO.out.only HB.out (by simp)).set 0 (.slice A3 (k + (n - (k + 1))) c3))
          have HQ3 := hid ((Only.wide (S := g :: (Value.slice (some ⟨b, 0, none⟩) n cap).ownBlock.toList) HB.out).setCell (p := ⟨g, 0, none⟩) (.inl (by simp)) (.slice A3 (k + (n - (k + 1))) c3))
          have HLow : Hid (∀ b', (Value.slice A3 (k + (n - (k + 1))) c3).ownBlock = some b' → w.heap.size ≤ b') := hid (fun b' hb' => ((V2.out.lt b' (by rw [EV3.out]; exact hb')).1))
          have HFin : Hid (DNext w g (.slice (some ⟨b, 0, none⟩) n cap) (freeS L id) _) := hid ⟨_, ⟨HO3.out, by rw [HS.out, HL'.out, HD'.out]; exact V4.out⟩, fun b' hb' => .inr (HLow.out b' hb'), HQ3.out⟩
          go_wp2
          all_goals go_ret
          all_goals first | exact ⟨rBool HE.out.symm, HFin.out⟩ | (have h9 := HFin.out; rw [‹cap = k + 1›] at h9; exact ⟨rBool HE.out.symm, h9⟩)
      · refine rgn.stepE rfl rfl (fun K hK => ?_)
        have qq : World.cell? _ ⟨g, 0, none⟩ = some (.slice (some ⟨b, 0, none⟩) n cap) := (HO.out.only HB.out (by simp)).cell 0
        go_simp
        refine hK _ _ (AnyW.any _ _) ?_
        clear hK K qq
        try simp only [Act.put, List.setIfInBounds_toArray, List.set_cons_zero, List.set_cons_succ]
        refine rgn.Walk.ys (v := ?_) rfl rfl rfl ?_ ?_
        rotate_left 1
        · intro W' hW'
          go_simp
          try with_reducible rfl
        try simp only [Act.put, List.setIfInBounds_toArray, List.set_cons_zero, List.set_cons_succ]
        refine rgn.Walk.bs ?_ ?_
        · refine rgn.stepE rfl rfl (fun K hK => ?_)
          go_simp
          refine hK _ _ (AnyW.any _ _) ?_
          clear hK K
          try simp only [Act.put, List.setIfInBounds_toArray, List.set_cons_zero, List.set_cons_succ]
          have V0 := hid (own_empty _ 110 5 w.heap.size HB.out.size); have HB := hid (HB.out.alloc (.cells #[] 110))
          refine rgn.Walk.bs ?_ ?_
          · refine rgn.stepE rfl rfl (fun K hK => ?_)
            refine opAppS _ rfl (.tmp 12) (.tmp 18) _ rfl plcElem w.heap.size _ 0 [] (by first | rfl | go_simp) V0.out (some ⟨b, 0, none⟩) k cap ((dcs L).take (k * 5)) (by first | rfl | go_simp) ((HR.out.only_nil HB.out).take k (by omega)) (by simp) (.inr ⟨_, _, rfl⟩) (by omega) (by unfold maxLen; omega) HB.out.size ?_
            intro v1 w2 hv hg hb
            refine hK _ _ (AnyW.any _ _) ?_
            clear hK K
            try simp only [Act.put, List.setIfInBounds_toArray, List.set_cons_zero, List.set_cons_succ]
            have HB := hid (HB.out.of_grown hg (fun k hk => .inr (V0.out.lt k hk).1)); have V1 : Hid (w2.ownsRow w.heap.size 110 5 v1 k ((dcs L).take (k * 5))) := hid (by simpa using hv); clear hv hg hb V0
            refine rgn.Walk.es ?_
            refine rgn.stepE rfl rfl (fun K hK => ?_)
            have qq : World.cell? _ ⟨g, 0, none⟩ = some (.slice (some ⟨b, 0, none⟩) n cap) := (HO.out.only HB.out (by simp)).cell 0
            go_simp
            refine hK _ _ (AnyW.any _ _) ?_
            clear hK K qq
            try simp only [Act.put, List.setIfInBounds_toArray, List.set_cons_zero, List.set_cons_succ]
            refine rgn.Walk.ys (v := ?_) rfl rfl rfl ?_ ?_
            rotate_left 1
            · intro W' hW'
              go_simp
              rw [if_pos ⟨by omega, by omega⟩]
              try with_reducible rfl
            try simp only [Act.put, List.setIfInBounds_toArray, List.set_cons_zero, List.set_cons_succ]
            refine rgn.Walk.es ?_
            refine rgn.stepE rfl rfl (fun K hK => ?_)
            refine opAppS _ rfl (.tmp 19) (.tmp 26) _ rfl plcElem w.heap.size _ k _ (by first | rfl | go_simp) V1.out A2 (n - (k + 1)) (cap - (k + 1)) ((dcs L).drop ((k + 1) * 5)) (by first | rfl | (rw [← HA2.out]; go_simp)) (HR2.out.only_nil HB.out) (by intro e; obtain ⟨_, _, e2⟩ := HAS.out; rw [e2] at e; cases e) (.inr HAS.out) (by omega) (by unfold maxLen; omega) HB.out.size ?_
            intro v2 w3 hv hg hb
            refine hK _ _ (AnyW.any _ _) ?_
            clear hK K
            try simp only [Act.put, List.setIfInBounds_toArray, List.set_cons_zero, List.set_cons_succ]
            have HB := hid (HB.out.of_grown hg (fun k hk => .inr (V1.out.lt k hk).1)); have V2 := hid hv; clear hv hg hb V1
            refine rgn.Walk.ys (v := ?_) rfl rfl rfl ?_ ?_
            rotate_left 1
            · intro W' hW'
              go_simp
              try with_reducible rfl
            try simp only [Act.put, List.setIfInBounds_toArray, List.set_cons_zero, List.set_cons_succ]
            refine rgn.Walk.ys (v := ?_) rfl rfl rfl ?_ ?_
            rotate_left 1
            · intro W' hW'
              go_simp
              try with_reducible rfl
            try simp only [Act.put, List.setIfInBounds_toArray, List.set_cons_zero, List.set_cons_succ]
            refine rgn.Walk.es ?_
            refine rgn.stepE rfl rfl (fun K hK => ?_)
            have qq : World.cell? _ ⟨g, 0, none⟩ = some (.slice (some ⟨b, 0, none⟩) n cap) := (HO.out.only HB.out (by simp)).cell 0
            have ff := (HO.out.only HB.out (by simp)).frozen 0
            obtain ⟨A3, c3, ev3, hc3, hm3, hn3, r3, hb3, hs3⟩ := RdS.of_own V2.out (by intro u hu; simp only [List.mem_append] at hu; rcases hu with hu | hu; exact dcs_one L u (List.mem_of_mem_take hu); exact dcs_one L u (List.mem_of_mem_drop hu))
            clear hc3 hm3 hn3 r3 hb3 hs3
            rw [ev3]
            go_simp
            refine hK _ _ (AnyW.any _ _) ?_
            clear hK K qq ff
            try simp only [Act.put, List.setIfInBounds_toArray, List.set_cons_zero, List.set_cons_succ]
            have EV3 := hid ev3; clear ev3
            refine rgn.Walk.zs (NoPanic.normal ?_)
            have V3 := hid (own_mono V2.out (Nat.zero_le _))
            rw [EV3.out] at V3
            have V4 := hid (own_only V3.out ((Only.refl [g] _).setCell (p := ⟨g, 0, none⟩) (.inl (by simp)) (.slice A3 (k + (n - (k + 1))) c3)) (fun b' hb' hm => own_neD (HO.out.only HB.out (by simp)) V3.out (by rw [hb', show b' = g from by simpa using hm])))
            have HO3 := hid ((HO.out.only HB.out (by simp)).set 0 (.slice A3 (k + (n - (k + 1))) c3))
            have HQ3 := hid ((Only.wide (S := g :: (Value.slice (some ⟨b, 0, none⟩) n cap).ownBlock.toList) HB.out).setCell (p := ⟨g, 0, none⟩) (.inl (by simp)) (.slice A3 (k + (n - (k + 1))) c3))
            have HLow : Hid (∀ b', (Value.slice A3 (k + (n - (k + 1))) c3).ownBlock = some b' → w.heap.size ≤ b') := hid (fun b' hb' => ((V2.out.lt b' (by rw [EV3.out]; exact hb')).1))
            have HFin : Hid (DNext w g (.slice (some ⟨b, 0, none⟩) n cap) (freeS L id) _) := hid ⟨_, ⟨HO3.out, by rw [HS.out, HL'.out, HD'.out]; exact V4.out⟩, fun b' hb' => .inr (HLow.out b' hb'), HQ3.out⟩
            go_wp2
            all_goals go_ret
            all_goals first | exact ⟨rBool HE.out.symm, HFin.out⟩ | (have h9 := HFin.out; rw [‹cap = k + 1›] at h9; exact ⟨rBool HE.out.symm, h9⟩)
          · refine rgn.stepE rfl rfl (fun K hK => ?_)
            have qq : World.cell? _ ⟨g, 0, none⟩ = some (.slice (some ⟨b, 0, none⟩) n cap) := (HO.out.only HB.out (by simp)).cell 0
            go_simp
            refine hK _ _ (AnyW.any _ _) ?_
            clear hK K qq
            try simp only [Act.put, List.setIfInBounds_toArray, List.set_cons_zero, List.set_cons_succ]
            refine rgn.Walk.ys (v := ?_) rfl rfl rfl ?_ ?_
            rotate_left 1
            · intro W' hW'
              go_simp
              rw [if_pos ⟨by omega, by omega⟩]
              try with_reducible rfl
            try simp only [Act.put, List.setIfInBounds_toArray, List.set_cons_zero, List.set_cons_succ]
            refine rgn.Walk.es ?_
            refine rgn.stepE rfl rfl (fun K hK => ?_)
            refine opAppS _ rfl (.tmp 12) (.tmp 18) _ rfl plcElem w.heap.size _ 0 [] (by first | rfl | go_simp) V0.out (some ⟨b, 0, none⟩) k cap ((dcs L).take (k * 5)) (by first | rfl | go_simp) ((HR.out.only_nil HB.out).take k (by omega)) (by simp) (.inr ⟨_, _, rfl⟩) (by omega) (by unfold maxLen; omega) HB.out.size ?_
            intro v1 w2 hv hg hb
            refine hK _ _ (AnyW.any _ _) ?_
            clear hK K
            try simp only [Act.put, List.setIfInBounds_toArray, List.set_cons_zero, List.set_cons_succ]
            have HB := hid (HB.out.of_grown hg (fun k hk => .inr (V0.out.lt k hk).1)); have V1 : Hid (w2.ownsRow w.heap.size 110 5 v1 k ((dcs L).take (k * 5))) := hid (by simpa using hv); clear hv hg hb V0
            refine rgn.Walk.es ?_
            refine rgn.stepE rfl rfl (fun K hK => ?_)
            refine opAppS _ rfl (.tmp 19) (.tmp 26) _ rfl plcElem w.heap.size _ k _ (by first | rfl | go_simp) V1.out A2 (n - (k + 1)) (cap - (k + 1)) ((dcs L).drop ((k + 1) * 5)) (by first | rfl | (rw [← HA2.out]; go_simp)) (HR2.out.only_nil HB.out) (by intro e; obtain ⟨_, _, e2⟩ := HAS.out; rw [e2] at e; cases e) (.inr HAS.out) (by omega) (by unfold maxLen; omega) HB.out.size ?_
            intro v2 w3 hv hg hb
            refine hK _ _ (AnyW.any _ _) ?_
            clear hK K
            try simp only [Act.put, List.setIfInBounds_toArray, List.set_cons_zero, List.set_cons_succ]
            have HB := hid (HB.out.of_grown hg (fun k hk => .inr (V1.out.lt k hk).1)); have V2 := hid hv; clear hv hg hb V1
            refine rgn.Walk.ys (v := ?_) rfl rfl rfl ?_ ?_
            rotate_left 1
            · intro W' hW'
              go_simp
              try with_reducible rfl
            try simp only [Act.put, List.setIfInBounds_toArray, List.set_cons_zero, List.set_cons_succ]
            refine rgn.Walk.ys (v := ?_) rfl rfl rfl ?_ ?_
            rotate_left 1
            · intro W' hW'
              go_simp
              try with_reducible rfl
            try simp only [Act.put, List.setIfInBounds_toArray, List.set_cons_zero, List.set_cons_succ]
            refine rgn.Walk.es ?_
            refine rgn.stepE rfl rfl (fun K hK => ?_)
            have qq : World.cell? _ ⟨g, 0, none⟩ = some (.slice (some ⟨b, 0, none⟩) n cap) := (HO.out.only HB.out (by simp)).cell 0
            have ff := (HO.out.only HB.out (by simp)).frozen 0
            obtain ⟨A3, c3, ev3, hc3, hm3, hn3, r3, hb3, hs3⟩ := RdS.of_own V2.out (by intro u hu; simp only [List.mem_append] at hu; rcases hu with hu | hu; exact dcs_one L u (List.mem_of_mem_take hu); exact dcs_one L u (List.mem_of_mem_drop hu))
            clear hc3 hm3 hn3 r3 hb3 hs3
            rw [ev3]
            go_simp
            refine hK _ _ (AnyW.any _ _) ?_
            clear hK K qq ff
            try simp only [Act.put, List.setIfInBounds_toArray, List.set_cons_zero, List.set_cons_succ]
            have EV3 := hid ev3; clear ev3
            refine rgn.Walk.zs (NoPanic.normal ?_)
            have V3 := hid (own_mono V2.out (Nat.zero_le _))
            rw [EV3.out] at V3
            have V4 := hid (own_only V3.out ((Only.refl [g] _).setCell (p := ⟨g, 0, none⟩) (.inl (by simp)) (.slice A3 (k + (n - (k + 1))) c3)) (fun b' hb' hm => own_neD (HO.out.only HB.out (by simp)) V3.out (by rw [hb', show b' = g from by simpa using hm])))
            have HO3 := hid ((HO.out.only HB.out (by simp)).set 0 (.slice A3 (k + (n - (k + 1))) c3))
            have HQ3 := hid ((Only.wide (S := g :: (Value.slice (some ⟨b, 0, none⟩) n cap).ownBlock.toList) HB.out).setCell (p := ⟨g, 0, none⟩) (.inl (by simp)) (.slice A3 (k + (n - (k + 1))) c3))
            have HLow : Hid (∀ b', (Value.slice A3 (k + (n - (k + 1))) c3).ownBlock = some b' → w.heap.size ≤ b') := hid (fun b' hb' => ((V2.out.lt b' (by rw [EV3.out]; exact hb')).1))
            have HFin : Hid (DNext w g (.slice (some ⟨b, 0, none⟩) n cap) (freeS L id) _) := hid ⟨_, ⟨HO3.out, by rw [HS.out, HL'.out, HD'.out]; exact V4.out⟩, fun b' hb' => .inr (HLow.out b' hb'), HQ3.out⟩
            go_wp2
            all_goals go_ret
            all_goals first | exact ⟨rBool HE.out.symm, HFin.out⟩ | (have h9 := HFin.out; rw [‹cap = k + 1›] at h9; exact ⟨rBool HE.out.symm, h9⟩)
        · refine rgn.stepE rfl rfl (fun K hK => ?_)
          have qq : World.cell? _ ⟨g, 0, none⟩ = some (.slice (some ⟨b, 0, none⟩) n cap) := (HO.out.only HB.out (by simp)).cell 0
          go_simp
          refine hK _ _ (AnyW.any _ _) ?_
          clear hK K qq
          try simp only [Act.put, List.setIfInBounds_toArray, List.set_cons_zero, List.set_cons_succ]
          refine rgn.Walk.ys (v := ?_) rfl rfl rfl ?_ ?_
          rotate_left 1
          · intro W' hW'
            go_simp
            rw [if_pos ⟨by omega, by omega⟩]
            try with_reducible rfl
          try simp only [Act.put, List.setIfInBounds_toArray, List.set_cons_zero, List.set_cons_succ]
          refine rgn.Walk.es ?_
          refine rgn.stepE rfl rfl (fun K hK => ?_)
          go_simp
          refine hK _ _ (AnyW.any _ _) ?_
          clear hK K
          try simp only [Act.put, List.setIfInBounds_toArray, List.set_cons_zero, List.set_cons_succ]
          have V0 := hid (own_empty _ 110 5 w.heap.size HB.out.size); have HB := hid (HB.out.alloc (.cells #[] 110))
          refine rgn.Walk.es ?_
          refine rgn.stepE rfl rfl (fun K hK => ?_)
          refine opAppS _ rfl (.tmp 12) (.tmp 18) _ rfl plcElem w.heap.size _ 0 [] (by first | rfl | go_simp) V0.out (some ⟨b, 0, none⟩) k cap ((dcs L).take (k * 5)) (by first | rfl | go_simp) ((HR.out.only_nil HB.out).take k (by omega)) (by simp) (.inr ⟨_, _, rfl⟩) (by omega) (by unfold maxLen; omega) HB.out.size ?_
          intro v1 w2 hv hg hb
          refine hK _ _ (AnyW.any _ _) ?_
          clear hK K
          try simp only [Act.put, List.setIfInBounds_toArray, List.set_cons_zero, List.set_cons_succ]
          have HB := hid (HB.out.of_grown hg (fun k hk => .inr (V0.out.lt k hk).1)); have V1 : Hid (w2.ownsRow w.heap.size 110 5 v1 k ((dcs L).take (k * 5))) := hid (by simpa using hv); clear hv hg hb V0
          refine rgn.Walk.es ?_
          refine rgn.stepE rfl rfl (fun K hK => ?_)
          refine opAppS _ rfl (.tmp 19) (.tmp 26) _ rfl plcElem w.heap.size _ k _ (by first | rfl | go_simp) V1.out A2 (n - (k + 1)) (cap - (k + 1)) ((dcs L).drop ((k + 1) * 5)) (by first | rfl | (rw [← HA2.out]; go_simp)) (HR2.out.only_nil HB.out) (by intro e; obtain ⟨_, _, e2⟩ := HAS.out; rw [e2] at e; cases e) (.inr HAS.out) (by omega) (by unfold maxLen; omega) HB.out.size ?_
          intro v2 w3 hv hg hb
          refine hK _ _ (AnyW.any _ _) ?_
          clear hK K
          try simp only [Act.put, List.setIfInBounds_toArray, List.set_cons_zero, List.set_cons_succ]
          have HB := hid (HB.out.of_grown hg (fun k hk => .inr (V1.out.lt k hk).1)); have V2 := hid hv; clear hv hg hb V1
          refine rgn.Walk.ys (v := ?_) rfl rfl rfl ?_ ?_
          rotate_left 1
          · intro W' hW'
            go_simp
            try with_reducible rfl
          try simp only [Act.put, List.setIfInBounds_toArray, List.set_cons_zero, List.set_cons_succ]
          refine rgn.Walk.ys (v := ?_) rfl rfl rfl ?_ ?_
          rotate_left 1
          · intro W' hW'
            go_simp
            try with_reducible rfl
          try simp only [Act.put, List.setIfInBounds_toArray, List.set_cons_zero, List.set_cons_succ]
          refine rgn.Walk.es ?_
          refine rgn.stepE rfl rfl (fun K hK => ?_)
          have qq : World.cell? _ ⟨g, 0, none⟩ = some (.slice (some ⟨b, 0, none⟩) n cap) := (HO.out.only HB.out (by simp)).cell 0
          have ff := (HO.out.only HB.out (by simp)).frozen 0
          obtain ⟨A3, c3, ev3, hc3, hm3, hn3, r3, hb3, hs3⟩ := RdS.of_own V2.out (by intro u hu; simp only [List.mem_append] at hu; rcases hu with hu | hu; exact dcs_one L u (List.mem_of_mem_take hu); exact dcs_one L u (List.mem_of_mem_drop hu))
          clear hc3 hm3 hn3 r3 hb3 hs3
          rw [ev3]
          go_simp
          refine hK _ _ (AnyW.any _ _) ?_
          clear hK K qq ff
          try simp only [Act.put, List.setIfInBounds_toArray, List.set_cons_zero, List.set_cons_succ]
          have EV3 := hid ev3; clear ev3
          refine rgn.Walk.zs (NoPanic.normal ?_)
          have V3 := hid (own_mono V2.out (Nat.zero_le _))
          rw [EV3.out] at V3
          have V4 := hid (own_only V3.out ((Only.refl [g] _).setCell (p := ⟨g, 0, none⟩) (.inl (by simp)) (.slice A3 (k + (n - (k + 1))) c3)) (fun b' hb' hm => own_neD (HO.out.only HB.out (by simp)) V3.out (by rw [hb', show b' = g from by simpa using hm])))
          have HO3 := hid ((HO.out.only HB.out (by simp)).set 0 (.slice A3 (k + (n - (k + 1))) c3))
          have HQ3 := hid ((Only.wide (S := g :: (Value.slice (some ⟨b, 0, none⟩) n cap).ownBlock.toList) HB.out).setCell (p := ⟨g, 0, none⟩) (.inl (by simp)) (.slice A3 (k + (n - (k + 1))) c3))
          have HLow : Hid (∀ b', (Value.slice A3 (k + (n - (k + 1))) c3).ownBlock = some b' → w.heap.size ≤ b') := hid (fun b' hb' => ((V2.out.lt b' (by rw [EV3.out]; exact hb')).1))
          have HFin : Hid (DNext w g (.slice (some ⟨b, 0, none⟩) n cap) (freeS L id) _) := hid ⟨_, ⟨HO3.out, by rw [HS.out, HL'.out, HD'.out]; exact V4.out⟩, fun b' hb' => .inr (HLow.out b' hb'), HQ3.out⟩
          go_wp2
          all_goals go_ret
          all_goals first | exact ⟨rBool HE.out.symm, HFin.out⟩ | (have h9 := HFin.out; rw [‹cap = k + 1›] at h9; exact ⟨rBool HE.out.symm, h9⟩)
      · refine rgn.stepE rfl rfl (fun K hK => ?_)
        have qq : World.cell? _ ⟨g, 0, none⟩ = some (.slice (some ⟨b, 0, none⟩) n cap) := (HO.out.only HB.out (by simp)).cell 0
        go_simp
        refine hK _ _ (AnyW.any _ _) ?_
        clear hK K qq
        try simp only [Act.put, List.setIfInBounds_toArray, List.set_cons_zero, List.set_cons_succ]
        refine rgn.Walk.ys (v := ?_) rfl rfl rfl ?_ ?_
        rotate_left 1
        · intro W' hW'
          go_simp
          rw [if_pos ⟨by omega, by omega⟩]
          try with_reducible rfl
        try simp only [Act.put, List.setIfInBounds_toArray, List.set_cons_zero, List.set_cons_succ]
        refine rgn.Walk.bs ?_ ?_
        · refine rgn.stepE rfl rfl (fun K hK => ?_)
          go_simp
          refine hK _ _ (AnyW.any _ _) ?_
          clear hK K
          try simp only [Act.put, List.setIfInBounds_toArray, List.set_cons_zero, List.set_cons_succ]
          have V0 := hid (own_empty _ 110 5 w.heap.size HB.out.size); have HB := hid (HB.out.alloc (.cells #[] 110))
          refine rgn.Walk.es ?_
          refine rgn.stepE rfl rfl (fun K hK => ?_)
          have qq : World.cell? _ ⟨g, 0, none⟩ = some (.slice (some ⟨b, 0, none⟩) n cap) := (HO.out.only HB.out (by simp)).cell 0
          go_simp
          refine hK _ _ (AnyW.any _ _) ?_
          clear hK K qq
          try simp only [Act.put, List.setIfInBounds_toArray, List.set_cons_zero, List.set_cons_succ]
          refine rgn.Walk.ys (v := ?_) rfl rfl rfl ?_ ?_
          rotate_left 1
          · intro W' hW'
            go_simp
            try with_reducible rfl
          try simp only [Act.put, List.setIfInBounds_toArray, List.set_cons_zero, List.set_cons_succ]
          refine rgn.Walk.es ?_
          refine rgn.stepE rfl rfl (fun K hK => ?_)
          refine opAppS _ rfl (.tmp 12) (.tmp 18) _ rfl plcElem w.heap.size _ 0 [] (by first | rfl | go_simp) V0.out (some ⟨b, 0, none⟩) k cap ((dcs L).take (k * 5)) (by first | rfl | go_simp) ((HR.out.only_nil HB.out).take k (by omega)) (by simp) (.inr ⟨_, _, rfl⟩) (by omega) (by unfold maxLen; omega) HB.out.size ?_
          intro v1 w2 hv hg hb
          refine hK _ _ (AnyW.any _ _) ?_
          clear hK K
          try simp only [Act.put, List.setIfInBounds_toArray, List.set_cons_zero, List.set_cons_succ]
          have HB := hid (HB.out.of_grown hg (fun k hk => .inr (V0.out.lt k hk).1)); have V1 : Hid (w2.ownsRow w.heap.size 110 5 v1 k ((dcs L).take (k * 5))) := hid (by simpa using hv); clear hv hg hb V0
          refine rgn.Walk.es ?_
          refine rgn.stepE rfl rfl (fun K hK => ?_)
          refine opAppS _ rfl (.tmp 19) (.tmp 26) _ rfl plcElem w.heap.size _ k _ (by first | rfl | go_simp) V1.out A2 (n - (k + 1)) (cap - (k + 1)) ((dcs L).drop ((k + 1) * 5)) (by first | rfl | (rw [← HA2.out]; go_simp)) (HR2.out.only_nil HB.out) (by intro e; obtain ⟨_, _, e2⟩ := HAS.out; rw [e2] at e; cases e) (.inr HAS.out) (by omega) (by unfold maxLen; omega) HB.out.size ?_
          intro v2 w3 hv hg hb
          refine hK _ _ (AnyW.any _ _) ?_
          clear hK K
          try simp only [Act.put, List.setIfInBounds_toArray, List.set_cons_zero, List.set_cons_succ]
          have HB := hid (HB.out.of_grown hg (fun k hk => .inr (V1.out.lt k hk).1)); have V2 := hid hv; clear hv hg hb V1
          refine rgn.Walk.ys (v := ?_) rfl rfl rfl ?_ ?_
          rotate_left 1
          · intro W' hW'
            go_simp
            try with_reducible rfl
          try simp only [Act.put, List.setIfInBounds_toArray, List.set_cons_zero, List.set_cons_succ]
          refine rgn.Walk.ys (v := ?_) rfl rfl rfl ?_ ?_
          rotate_left 1
          · intro W' hW'
            go_simp
            try with_reducible rfl
          try simp only [Act.put, List.setIfInBounds_toArray, List.set_cons_zero, List.set_cons_succ]
          refine rgn.Walk.es ?_
          refine rgn.stepE rfl rfl (fun K hK => ?_)
          have qq : World.cell? _ ⟨g, 0, none⟩ = some (.slice (some ⟨b, 0, none⟩) n cap) := (HO.out.only HB.out (by simp)).cell 0
          have ff := (HO.out.only HB.out (by simp)).frozen 0
          obtain ⟨A3, c3, ev3, hc3, hm3, hn3, r3, hb3, hs3⟩ := RdS.of_own V2.out (by intro u hu; simp only [List.mem_append] at hu; rcases hu with hu | hu; exact dcs_one L u (List.mem_of_mem_take hu); exact dcs_one L u (List.mem_of_mem_drop hu))
          clear hc3 hm3 hn3 r3 hb3 hs3
          rw [ev3]
          go_simp
          refine hK _ _ (AnyW.any _ _) ?_
          clear hK K qq ff
          try simp only [Act.put, List.setIfInBounds_toArray, List.set_cons_zero, List.set_cons_succ]
          have EV3 := hid ev3; clear ev3
          refine rgn.Walk.zs (NoPanic.normal ?_)
          have V3 := hid (own_mono V2.out (Nat.zero_le _))
          rw [EV3.out] at V3
          have V4 := hid (own_only V3.out ((Only.refl [g] _).setCell (p := ⟨g, 0, none⟩) (.inl (by simp)) (.slice A3 (k + (n - (k + 1))) c3)) (fun b' hb' hm => own_neD (HO.out.only HB.out (by simp)) V3.out (by rw [hb', show b' = g from by simpa using hm])))
          have HO3 := hid ((HO.out.only HB.out (by simp)).set 0 (.slice A3 (k + (n - (k + 1))) c3))
          have HQ3 := hid ((Only.wide (S := g :: (Value.slice (some ⟨b, 0, none⟩) n cap).ownBlock.toList) HB.out).setCell (p := ⟨g, 0, none⟩) (.inl (by simp)) (.slice A3 (k + (n - (k + 1))) c3))
          have HLow : Hid (∀ b', (Value.slice A3 (k + (n - (k + 1))) c3).ownBlock = some b' → w.heap.size ≤ b') := hid (fun b' hb' => ((V2.out.lt b' (by rw [EV3.out]; exact hb')).1))
          have HFin : Hid (DNext w g (.slice (some ⟨b, 0, none⟩) n cap) (freeS L id) _) := hid ⟨_, ⟨HO3.out, by rw [HS.out, HL'.out, HD'.out]; exact V4.out⟩, fun b' hb' => .inr (HLow.out b' hb'), HQ3.out⟩
          go_wp2
          all_goals go_ret
          all_goals first | exact ⟨rBool HE.out.symm, HFin.out⟩ | (have h9 := HFin.out; rw [‹cap = k + 1›] at h9; exact ⟨rBool HE.out.symm, h9⟩)
        · refine rgn.stepE rfl rfl (fun K hK => ?_)
          have qq : World.cell? _ ⟨g, 0, none⟩ = some (.slice (some ⟨b, 0, none⟩) n cap) := (HO.out.only HB.out (by simp)).cell 0
          go_simp
          refine hK _ _ (AnyW.any _ _) ?_
          clear hK K qq
          try simp only [Act.put, List.setIfInBounds_toArray, List.set_cons_zero, List.set_cons_succ]
          refine rgn.Walk.ys (v := ?_) rfl rfl rfl ?_ ?_
          rotate_left 1
          · intro W' hW'
            go_simp
            try with_reducible rfl
          try simp only [Act.put, List.setIfInBounds_toArray, List.set_cons_zero, List.set_cons_succ]
          refine rgn.Walk.es ?_
          refine rgn.stepE rfl rfl (fun K hK => ?_)
          go_simp
          refine hK _ _ (AnyW.any _ _) ?_
          clear hK K
          try simp only [Act.put, List.setIfInBounds_toArray, List.set_cons_zero, List.set_cons_succ]
          have V0 := hid (own_empty _ 110 5 w.heap.size HB.out.size); have HB := hid (HB.out.alloc (.cells #[] 110))
          refine rgn.Walk.es ?_
          refine rgn.stepE rfl rfl (fun K hK => ?_)
          refine opAppS _ rfl (.tmp 12) (.tmp 18) _ rfl plcElem w.heap.size _ 0 [] (by first | rfl | go_simp) V0.out (some ⟨b, 0, none⟩) k cap ((dcs L).take (k * 5)) (by first | rfl | go_simp) ((HR.out.only_nil HB.out).take k (by omega)) (by simp) (.inr ⟨_, _, rfl⟩) (by omega) (by unfold maxLen; omega) HB.out.size ?_
          intro v1 w2 hv hg hb
          refine hK _ _ (AnyW.any _ _) ?_
          clear hK K
          try simp only [Act.put, List.setIfInBounds_toArray, List.set_cons_zero, List.set_cons_succ]
          have HB := hid (HB.out.of_grown hg (fun k hk => .inr (V0.out.lt k hk).1)); have V1 : Hid (w2.ownsRow w.heap.size 110 5 v1 k ((dcs L).take (k * 5))) := hid (by simpa using hv); clear hv hg hb V0
          refine rgn.Walk.es ?_
          refine rgn.stepE rfl rfl (fun K hK => ?_)
          refine opAppS _ rfl (.tmp 19) (.tmp 26) _ rfl plcElem w.heap.size _ k _ (by first | rfl | go_simp) V1.out A2 (n - (k + 1)) (cap - (k + 1)) ((dcs L).drop ((k + 1) * 5)) (by first | rfl | (rw [← HA2.out]; go_simp)) (HR2.out.only_nil HB.out) (by intro e; obtain ⟨_, _, e2⟩ := HAS.out; rw [e2] at e; cases e) (.inr HAS.out) (by omega) (by unfold maxLen; omega) HB.out.size ?_
          intro v2 w3 hv hg hb
          refine hK _ _ (AnyW.any _ _) ?_
          clear hK K
          try simp only [Act.put, List.setIfInBounds_toArray, List.set_cons_zero, List.set_cons_succ]
          have HB := hid (HB.out.of_grown hg (fun k hk => .inr (V1.out.lt k hk).1)); have V2 := hid hv; clear hv hg hb V1
          refine rgn.Walk.ys (v := ?_) rfl rfl rfl ?_ ?_
          rotate_left 1
          · intro W' hW'
            go_simp
            try with_reducible rfl
          try simp only [Act.put, List.setIfInBounds_toArray, List.set_cons_zero, List.set_cons_succ]
          refine rgn.Walk.ys (v := ?_) rfl rfl rfl ?_ ?_
          rotate_left 1
          · intro W' hW'
            go_simp
            try with_reducible rfl
          try simp only [Act.put, List.setIfInBounds_toArray, List.set_cons_zero, List.set_cons_succ]
          refine rgn.Walk.es ?_
          refine rgn.stepE rfl rfl (fun K hK => ?_)
          have qq : World.cell? _ ⟨g, 0, none⟩ = some (.slice (some ⟨b, 0, none⟩) n cap) := (HO.out.only HB.out (by simp)).cell 0
          have ff := (HO.out.only HB.out (by simp)).frozen 0
          obtain ⟨A3, c3, ev3, hc3, hm3, hn3, r3, hb3, hs3⟩ := RdS.of_own V2.out (by intro u hu; simp only [List.mem_append] at hu; rcases hu with hu | hu; exact dcs_one L u (List.mem_of_mem_take hu); exact dcs_one L u (List.mem_of_mem_drop hu))
          clear hc3 hm3 hn3 r3 hb3 hs3
          rw [ev3]
          go_simp
          refine hK _ _ (AnyW.any _ _) ?_
          clear hK K qq ff
          try simp only [Act.put, List.setIfInBounds_toArray, List.set_cons_zero, List.set_cons_succ]
          have EV3 := hid ev3; clear ev3
          refine rgn.Walk.zs (NoPanic.normal ?_)
          have V3 := hid (own_mono V2.out (Nat.zero_le _))
          rw [EV3.out] at V3
          have V4 := hid (own_only V3.out ((Only.refl [g] _).setCell (p := ⟨g, 0, none⟩) (.inl (by simp)) (.slice A3 (k + (n - (k + 1))) c3)) (fun b' hb' hm => own_neD (HO.out.only HB.out (by simp)) V3.out (by rw [hb', show b' = g from by simpa using hm])))
          have HO3 := hid ((HO.out.only HB.out (by simp)).set 0 (.slice A3 (k + (n - (k + 1))) c3))
          have HQ3 := hid ((Only.wide (S := g :: (Value.slice (some ⟨b, 0, none⟩) n cap).ownBlock.toList) HB.out).setCell (p := ⟨g, 0, none⟩) (.inl (by simp)) (.slice A3 (k + (n - (k + 1))) c3))
          have HLow : Hid (∀ b', (Value.slice A3 (k + (n - (k + 1))) c3).ownBlock = some b' → w.heap.size ≤ b') := hid (fun b' hb' => ((V2.out.lt b' (by rw [EV3.out]; exact hb')).1))
          have HFin : Hid (DNext w g (.slice (some ⟨b, 0, none⟩) n cap) (freeS L id) _) := hid ⟨_, ⟨HO3.out, by rw [HS.out, HL'.out, HD'.out]; exact V4.out⟩, fun b' hb' => .inr (HLow.out b' hb'), HQ3.out⟩
          go_wp2
          all_goals go_ret
          all_goals first | exact ⟨rBool HE.out.symm, HFin.out⟩ | (have h9 := HFin.out; rw [‹cap = k + 1›] at h9; exact ⟨rBool HE.out.symm, h9⟩)
end Go.Proofs.Ytnhakcgkhhficaa.udp
/-
  Chapter 11 (udp): Pick of the document's Ports that holds any list of places, by a walk of the text. Conditions: none but those typed.
-/
namespace Go.Proofs.Ytnhakcgkhhficaa.udp
set_option linter.unusedVariables false
set_option linter.unusedSimpArgs false
open Go.ChangeShapes Go.WideShapes Go.ChangeAt Go.RowKit Go.IntWalk Go.Lib
set_option maxRecDepth 100000 in
set_option maxHeartbeats 2000000 in
theorem pickPD (w : World) (g : Nat) (v : Value) (L : List Bd) (id a : Int) (d f : Int) (hd : 0 < d) (hf : d % 16384 = f) (h : PE w g v L) (hn : L.length < 64) (hid0 : ¬ id < 0) (hr : roomE L id = 0) :
    Calls Try.prog 46 #[.pointer (some ⟨g, 0, none⟩), .int .i64 id, .int .u32 a, .int .i64 d] w fun x w' => x = .returned (.tuple #[.int .i64 (pickR L id a d).1, .int .i64 (pickR L id a d).2.1]) ∧ DNext w g v (pickR L id a d).2.2 w' := by
  have H := hid h
  obtain ⟨A, c, rfl, hb⟩ := h.form
  have HO := hid h.1
  clear h hb
  have HSp := hid (spotD w g _ L id H.out (by omega))
  have q1 : ¬ 0 ≤ spot L id := by
    intro q
    unfold roomE at hr
    rw [if_pos q] at hr
    omega
  have q3 : ¬ (64 : Int) ≤ L.length := by omega
  have hf0 : 0 ≤ f ∧ f < 16384 := by omega
  have hmx : max 0 d = d := by omega
  have hmy : max d 0 = d := by omega
  have hdm : d.tmod 16384 = d % 16384 := Int.tmod_eq_emod_of_nonneg (by omega)
  have HX : Hid (∀ y, ffr L a f 16384 0 = y → pickR L id a d = match y with
    | some k => (prq f k, 0, L ++ [⟨id, a, prq f k, 0, 0⟩])
    | none => (0, 22, L)) := hid (fun y hy => by
      subst hy
      unfold pickR
      rw [if_neg hid0, if_neg (by omega), hmy, hf]
      cases ffr L a f 16384 0 <;> rfl)
  generalize pickR L id a d = rr at *
  clear hr
  generalize spot L id = sp at *
  go_enter Try.func46, Try.ntmps46
  go_wp2_with fail
  refine HSp.out.mono ?_
  rintro x w1 ⟨rfl, o1⟩
  have c0 := (HO.out.only o1 (by simp)).cell 0
  have H := hid (H.out.only_nil o1); have HB1 := hid o1
  clear o1 HSp
  go_wp2
  go_loopw [10] (fun i wr => ∃ j : Nat, j ≤ 16384 ∧ i = .int .i64 j ∧ Hid (ffr L a f (16384 - j) j = ffr L a f 16384 0) ∧ Hid (Only [] w1 wr)) (fun i _ => 16384 - (RowKit.intOf i).toNat)
  case atStart => exact ⟨0, by omega, rfl, hid rfl, hid (Only.refl _ _)⟩
  case round =>
  obtain ⟨j, hj, rfl, HF, HQ⟩ := hrel
  have HS := hid (H.out.only_nil HQ.out)
  clear c0
  by_cases hj16 : (j : Int) < 16384
  · have hjm : (f + (j : Int)).tmod 16384 = (d + (j : Int)) % 16384 := by rw [Int.tmod_eq_emod_of_nonneg (by omega)]; omega
    have hjm2 : (d % 16384 + (j : Int)).tmod 16384 = (d + (j : Int)) % 16384 := by rw [Int.tmod_eq_emod_of_nonneg (by omega)]; omega
    have HFn : Hid (ffr L a f (16384 - j) j = if tkn L a (prq f j) then ffr L a f (16384 - (j + 1)) (j + 1) else some j) := hid (by
      rw [show 16384 - j = (16384 - (j + 1)) + 1 from by omega]
      rfl)
    have HP : Hid (prq f j = 49152 + (d + (j : Int)) % 16384) := hid (by unfold prq; omega)
    have hT := takenD wr g _ L a (prq f j) HS.out (by omega)
    cases ht : tkn L a (prq f j) with
    | true =>
      rw [ht] at hT
      have HF2 : Hid (ffr L a f (16384 - (j + 1)) (j + 1) = ffr L a f 16384 0) := hid (by
        have e := HFn.out
        rw [ht, if_pos rfl] at e
        rw [← e, HF.out])
      clear ht
      rw [HP.out] at hT
      have HT := hid hT; clear hT HFn
      go_wp2_with fail
      refine HT.out.mono ?_
      rintro x w3 ⟨rfl, o3⟩
      have HQ := hid (HQ.out.trans o3)
      clear o3
      go_wp2
      go_roundw
      case rel => exact ⟨j + 1, by omega, by go_num, HF2, HQ⟩
      case measure => simp [RowKit.intOf]; omega
    | false =>
      rw [ht] at hT
      have HE := hid (HX.out (some j) (by
        have e := HFn.out
        rw [ht, if_neg (by decide)] at e
        rw [← HF.out, e]))
      clear ht
      rw [HP.out] at hT
      have HT := hid hT; clear hT HFn HF HX
      go_wp2_with fail
      refine HT.out.mono ?_
      rintro x w3 ⟨rfl, o3⟩
      have H := hid (HS.out.only_nil o3); have Q := hid ((HB1.out.trans HQ.out).trans o3)
      clear o3 HT HQ HS HB1 HO
      generalize hvv : Value.slice A L.length c = v at *
      have HVV := hid hvv; clear hvv
      obtain ⟨ho, hv⟩ := H.out
      have c0 : w3.cell? ⟨g, 0, none⟩ = some v := ho.cell 0
      have OB := hid (ho.alloc (.cells #[.int .i64 id, .int .i64 (49152 + (d + (j : Int)) % 16384), .int .u32 a, .int .u32 0, .int .i64 0] 110)); have hlt := ho.lt
      have HV := hid (hv.alloc (.cells #[.int .i64 id, .int .i64 (49152 + (d + (j : Int)) % 16384), .int .u32 a, .int .u32 0, .int .i64 0] 110))
      have QA : Hid (Only (g :: v.ownBlock.toList) w (w3.alloc (.cells #[.int .i64 id, .int .i64 (49152 + (d + (j : Int)) % 16384), .int .u32 a, .int .u32 0, .int .i64 0] 110))) := hid ((Only.wide Q.out).alloc _)
      have HSZ : Hid (w.heap.size ≤ w3.heap.size) := hid Q.out.size
      obtain ⟨i, hi, hz, hsi, hby⟩ := plcInfo
      have HN : Hid (∀ t u, (Bd.ds ⟨id, a, 49152 + (d + (j : Int)) % 16384, 0, 0⟩)[t]? = some u → (w3.alloc (.cells #[.int .i64 id, .int .i64 (49152 + (d + (j : Int)) % 16384), .int .u32 a, .int .u32 0, .int .i64 0] 110)).cell? ((⟨w3.heap.size, 0, none⟩ : Addr).add t) = some u) := hid (fun t u hu => by
        have hoo := Ob.new w3 110 #[.int .i64 id, .int .i64 (49152 + (d + (j : Int)) % 16384), .int .u32 a, .int .u32 0, .int .i64 0]
        rw [addr_plus, Nat.zero_add, hoo.cell t]
        simpa [Bd.ds] using hu)
      clear ho hv
      go_wp2_with (at_builtin; refine wpList_append_own_at _ rfl (.tmp 47) (.tmp 52) 58 rfl 0 110 i _ 5 32 Try.underlying58 hi hz hsi hby rfl (by decide) v L.length (dcs L) rfl ?ca ⟨w3.heap.size, 0, none⟩ 1 1 (Bd.ds ⟨id, a, 49152 + (d + (j : Int)) % 16384, 0, 0⟩) rfl rfl ?cb ?cc ?cd ?ce ?cf ?_)
      case ca => exact HV.out
      case cb => exact HN.out
      case cc => intro u hu; simp [Bd.ds] at hu; rcases hu with rfl | rfl | rfl | rfl | rfl <;> rfl
      case cd => unfold maxLen; omega
      case ce => omega
      case cf => omega
      intro v4 w4 hv4 hg4 _ how
      have hne4 := own_neD OB.out HV.out
      have OB := hid (OB.out.grown hg4 (fun e => hne4 e))
      have QA := hid (QA.out.of_grown hg4 (by intro k hk; left; simp [hk]))
      have hv5 : w4.ownsRow 0 110 5 v4 (L.length + 1) (dcs (L ++ [⟨id, a, 49152 + (d + (j : Int)) % 16384, 0, 0⟩])) := by rw [dcs_app]; simpa [dcs] using hv4
      have hne5 := own_neD OB.out hv5
      have HV5 := hid hv5
      have HOW : Hid (∀ b, v4.ownBlock = some b → v.ownBlock = some b ∨ w.heap.size ≤ b) := hid (by
        intro b hb
        have hs := HSZ.out
        rcases how with h | h
        · exact .inl (by rw [← h]; exact hb)
        · rw [h] at hb
          injection hb with hb
          right
          omega)
      obtain ⟨g5, cap5, ev5⟩ : ∃ g5 cap5, v4 = .slice (some ⟨g5, 0, none⟩) (L.length + 1) cap5 := by
        rcases hv5.2 with ⟨_, h0⟩ | ⟨g5, cap5, cur, hv, _⟩
        · omega
        · exact ⟨_, _, hv⟩
      subst ev5
      have c0 := OB.out.cell 0; have f0 := OB.out.frozen 0
      clear hv4 hg4 hv5 HN HV how
      generalize hLn : L.length = n at *
      have HLn := hid hLn; clear hLn
      go_wp2
      go_ret2
      refine ⟨by rw [HE.out]; show _ = Ending.returned (.tuple #[.int .i64 (prq f j), .int .i64 0]); rw [HP.out]; rfl, ?_⟩
      rw [HE.out, show (Value.slice A L.length c) = v from by rw [HLn.out]; exact HVV.out]
      show DNext w g v (L ++ [⟨id, a, prq f j, 0, 0⟩]) _
      rw [HP.out]
      refine ⟨_, ⟨OB.out.set 0 _, ?_⟩, HOW.out, QA.out.setCell (p := ⟨g, 0, none⟩) (.inl (by simp)) _⟩
      rw [show (L ++ [(⟨id, a, 49152 + (d + (j : Int)) % 16384, 0, 0⟩ : Bd)]).length = n + 1 from by rw [List.length_append, HLn.out]; rfl]
      refine ⟨HV5.out.1, ?_⟩
      rcases HV5.out.2 with h | ⟨g6, cap6, cur, hv6, hb6, hh6, r⟩
      · exact .inl h
      · refine .inr ⟨g6, cap6, cur, hv6, hb6, ?_, r⟩
        have hg6 : g6 ≠ g := by
          intro e; subst e
          rw [hv6] at hne5
          exact hne5 rfl
        rw [heap_setCell_other _ _ g6 _ (by simpa using hg6)]
        exact hh6
  · obtain rfl : j = 16384 := by omega
    have HE := hid (HX.out none (by rw [← HF.out]; rfl))
    have Q := hid (HB1.out.trans HQ.out)
    clear HX HF hj16
    go_wp2
    go_ret2
    exact ⟨by rw [HE.out]; rfl, by rw [HE.out]; exact ⟨_, HS.out, fun b hb => .inl hb, Only.wide Q.out⟩⟩
set_option maxRecDepth 100000 in
set_option maxHeartbeats 2000000 in
theorem pickND (w : World) (g : Nat) (v : Value) (L : List Bd) (id a : Int) (d : Int) (hd : d ≤ 0) (h : PE w g v L) (hn : L.length < 64) (hid0 : ¬ id < 0) (hr : roomE L id = 0) :
    Calls Try.prog 46 #[.pointer (some ⟨g, 0, none⟩), .int .i64 id, .int .u32 a, .int .i64 d] w fun x w' => x = .returned (.tuple #[.int .i64 (pickR L id a d).1, .int .i64 (pickR L id a d).2.1]) ∧ DNext w g v (pickR L id a d).2.2 w' := by
  have H := hid h
  obtain ⟨A, c, rfl, hb⟩ := h.form
  have HO := hid h.1
  clear h hb
  have HSp := hid (spotD w g _ L id H.out (by omega))
  have q1 : ¬ 0 ≤ spot L id := by
    intro q
    unfold roomE at hr
    rw [if_pos q] at hr
    omega
  have q3 : ¬ (64 : Int) ≤ L.length := by omega
  have hmx : max 0 d = 0 := by omega
  have hmy : max d 0 = 0 := by omega
  have HX : Hid (∀ y, ffr L a 0 16384 0 = y → pickR L id a d = match y with
    | some k => (prq 0 k, 0, L ++ [⟨id, a, prq 0 k, 0, 0⟩])
    | none => (0, 22, L)) := hid (fun y hy => by
      subst hy
      unfold pickR
      rw [if_neg hid0, if_neg (by omega), hmy, show ((0 : Int) % 16384) = 0 from rfl]
      cases ffr L a 0 16384 0 <;> rfl)
  generalize pickR L id a d = rr at *
  clear hr
  generalize spot L id = sp at *
  go_enter Try.func46, Try.ntmps46
  go_wp2_with fail
  refine HSp.out.mono ?_
  rintro x w1 ⟨rfl, o1⟩
  have c0 := (HO.out.only o1 (by simp)).cell 0
  have H := hid (H.out.only_nil o1); have HB1 := hid o1
  clear o1 HSp
  go_wp2
  go_loopw [10] (fun i wr => ∃ j : Nat, j ≤ 16384 ∧ i = .int .i64 j ∧ Hid (ffr L a 0 (16384 - j) j = ffr L a 0 16384 0) ∧ Hid (Only [] w1 wr)) (fun i _ => 16384 - (RowKit.intOf i).toNat)
  case atStart => exact ⟨0, by omega, rfl, hid rfl, hid (Only.refl _ _)⟩
  case round =>
  obtain ⟨j, hj, rfl, HF, HQ⟩ := hrel
  have HS := hid (H.out.only_nil HQ.out)
  clear c0
  by_cases hj16 : (j : Int) < 16384
  · have hjm : (j : Int).tmod 16384 = (j : Int) % 16384 := Int.tmod_eq_emod_of_nonneg (by omega)
    have HFn : Hid (ffr L a 0 (16384 - j) j = if tkn L a (prq 0 j) then ffr L a 0 (16384 - (j + 1)) (j + 1) else some j) := hid (by
      rw [show 16384 - j = (16384 - (j + 1)) + 1 from by omega]
      rfl)
    have HP : Hid (prq 0 j = 49152 + (j : Int) % 16384) := hid (by unfold prq; rw [Int.zero_add])
    have hT := takenD wr g _ L a (prq 0 j) HS.out (by omega)
    cases ht : tkn L a (prq 0 j) with
    | true =>
      rw [ht] at hT
      have HF2 : Hid (ffr L a 0 (16384 - (j + 1)) (j + 1) = ffr L a 0 16384 0) := hid (by
        have e := HFn.out
        rw [ht, if_pos rfl] at e
        rw [← e, HF.out])
      clear ht
      rw [HP.out] at hT
      have HT := hid hT; clear hT HFn
      go_wp2_with fail
      refine HT.out.mono ?_
      rintro x w3 ⟨rfl, o3⟩
      have HQ := hid (HQ.out.trans o3)
      clear o3
      go_wp2
      go_roundw
      case rel => exact ⟨j + 1, by omega, by go_num, HF2, HQ⟩
      case measure => simp [RowKit.intOf]; omega
    | false =>
      rw [ht] at hT
      have HE := hid (HX.out (some j) (by
        have e := HFn.out
        rw [ht, if_neg (by decide)] at e
        rw [← HF.out, e]))
      clear ht
      rw [HP.out] at hT
      have HT := hid hT; clear hT HFn HF HX
      go_wp2_with fail
      refine HT.out.mono ?_
      rintro x w3 ⟨rfl, o3⟩
      have H := hid (HS.out.only_nil o3); have Q := hid ((HB1.out.trans HQ.out).trans o3)
      clear o3 HT HQ HS HB1 HO
      generalize hvv : Value.slice A L.length c = v at *
      have HVV := hid hvv; clear hvv
      obtain ⟨ho, hv⟩ := H.out
      have c0 : w3.cell? ⟨g, 0, none⟩ = some v := ho.cell 0
      have OB := hid (ho.alloc (.cells #[.int .i64 id, .int .i64 (49152 + (j : Int) % 16384), .int .u32 a, .int .u32 0, .int .i64 0] 110)); have hlt := ho.lt
      have HV := hid (hv.alloc (.cells #[.int .i64 id, .int .i64 (49152 + (j : Int) % 16384), .int .u32 a, .int .u32 0, .int .i64 0] 110))
      have QA : Hid (Only (g :: v.ownBlock.toList) w (w3.alloc (.cells #[.int .i64 id, .int .i64 (49152 + (j : Int) % 16384), .int .u32 a, .int .u32 0, .int .i64 0] 110))) := hid ((Only.wide Q.out).alloc _)
      have HSZ : Hid (w.heap.size ≤ w3.heap.size) := hid Q.out.size
      obtain ⟨i, hi, hz, hsi, hby⟩ := plcInfo
      have HN : Hid (∀ t u, (Bd.ds ⟨id, a, 49152 + (j : Int) % 16384, 0, 0⟩)[t]? = some u → (w3.alloc (.cells #[.int .i64 id, .int .i64 (49152 + (j : Int) % 16384), .int .u32 a, .int .u32 0, .int .i64 0] 110)).cell? ((⟨w3.heap.size, 0, none⟩ : Addr).add t) = some u) := hid (fun t u hu => by
        have hoo := Ob.new w3 110 #[.int .i64 id, .int .i64 (49152 + (j : Int) % 16384), .int .u32 a, .int .u32 0, .int .i64 0]
        rw [addr_plus, Nat.zero_add, hoo.cell t]
        simpa [Bd.ds] using hu)
      clear ho hv
      go_wp2_with (at_builtin; refine wpList_append_own_at _ rfl (.tmp 47) (.tmp 52) 58 rfl 0 110 i _ 5 32 Try.underlying58 hi hz hsi hby rfl (by decide) v L.length (dcs L) rfl ?ca ⟨w3.heap.size, 0, none⟩ 1 1 (Bd.ds ⟨id, a, 49152 + (j : Int) % 16384, 0, 0⟩) rfl rfl ?cb ?cc ?cd ?ce ?cf ?_)
      case ca => exact HV.out
      case cb => exact HN.out
      case cc => intro u hu; simp [Bd.ds] at hu; rcases hu with rfl | rfl | rfl | rfl | rfl <;> rfl
      case cd => unfold maxLen; omega
      case ce => omega
      case cf => omega
      intro v4 w4 hv4 hg4 _ how
      have hne4 := own_neD OB.out HV.out
      have OB := hid (OB.out.grown hg4 (fun e => hne4 e))
      have QA := hid (QA.out.of_grown hg4 (by intro k hk; left; simp [hk]))
      have hv5 : w4.ownsRow 0 110 5 v4 (L.length + 1) (dcs (L ++ [⟨id, a, 49152 + (j : Int) % 16384, 0, 0⟩])) := by rw [dcs_app]; simpa [dcs] using hv4
      have hne5 := own_neD OB.out hv5
      have HV5 := hid hv5
      have HOW : Hid (∀ b, v4.ownBlock = some b → v.ownBlock = some b ∨ w.heap.size ≤ b) := hid (by
        intro b hb
        have hs := HSZ.out
        rcases how with h | h
        · exact .inl (by rw [← h]; exact hb)
        · rw [h] at hb
          injection hb with hb
          right
          omega)
      obtain ⟨g5, cap5, ev5⟩ : ∃ g5 cap5, v4 = .slice (some ⟨g5, 0, none⟩) (L.length + 1) cap5 := by
        rcases hv5.2 with ⟨_, h0⟩ | ⟨g5, cap5, cur, hv, _⟩
        · omega
        · exact ⟨_, _, hv⟩
      subst ev5
      have c0 := OB.out.cell 0; have f0 := OB.out.frozen 0
      clear hv4 hg4 hv5 HN HV how
      generalize hLn : L.length = n at *
      have HLn := hid hLn; clear hLn
      go_wp2
      go_ret2
      refine ⟨by rw [HE.out]; show _ = Ending.returned (.tuple #[.int .i64 (prq 0 j), .int .i64 0]); rw [HP.out]; rfl, ?_⟩
      rw [HE.out, show (Value.slice A L.length c) = v from by rw [HLn.out]; exact HVV.out]
      show DNext w g v (L ++ [⟨id, a, prq 0 j, 0, 0⟩]) _
      rw [HP.out]
      refine ⟨_, ⟨OB.out.set 0 _, ?_⟩, HOW.out, QA.out.setCell (p := ⟨g, 0, none⟩) (.inl (by simp)) _⟩
      rw [show (L ++ [(⟨id, a, 49152 + (j : Int) % 16384, 0, 0⟩ : Bd)]).length = n + 1 from by rw [List.length_append, HLn.out]; rfl]
      refine ⟨HV5.out.1, ?_⟩
      rcases HV5.out.2 with h | ⟨g6, cap6, cur, hv6, hb6, hh6, r⟩
      · exact .inl h
      · refine .inr ⟨g6, cap6, cur, hv6, hb6, ?_, r⟩
        have hg6 : g6 ≠ g := by
          intro e; subst e
          rw [hv6] at hne5
          exact hne5 rfl
        rw [heap_setCell_other _ _ g6 _ (by simpa using hg6)]
        exact hh6
  · obtain rfl : j = 16384 := by omega
    have HE := hid (HX.out none (by rw [← HF.out]; rfl))
    have Q := hid (HB1.out.trans HQ.out)
    clear HX HF hj16
    go_wp2
    go_ret2
    exact ⟨by rw [HE.out]; rfl, by rw [HE.out]; exact ⟨_, HS.out, fun b hb => .inl hb, Only.wide Q.out⟩⟩
end Go.Proofs.Ytnhakcgkhhficaa.udp
/-
  Chapter 11 (udp): Pick, of both Ports, whatever is asked, by a walk of each text. Conditions: none but those typed.
-/
namespace Go.Proofs.Ytnhakcgkhhficaa.udp
set_option linter.unusedVariables false
set_option linter.unusedSimpArgs false
open Go.ChangeShapes Go.WideShapes Go.ChangeAt Go.RowKit Go.IntWalk Go.Lib
theorem roomE_len {L : List Bd} {id : Int} (h : roomE L id = 0) : L.length < 64 := by
  unfold roomE at h
  split at h
  · omega
  · split at h
    · omega
    · omega
set_option maxRecDepth 100000 in
set_option maxHeartbeats 1000000 in
theorem pickL (w : World) (g : Nat) (v : Value) (L : List Bd) (id a d : Int) (h : PV w g v L) (hn : L.length ≤ 64) :
    Calls Try.prog 13 #[.pointer (some ⟨g, 0, none⟩), .int .i64 id, .int .u32 a, .int .i64 d] w fun x w' => x = .returned (.tuple #[.int .i64 (pickR L id a d).1, .int .i64 (pickR L id a d).2.1]) ∧ PNext w g v (pickR L id a d).2.2 w' := by
  by_cases h1 : id < 0
  · have HE : Hid (pickR L id a d = (0, 1, L)) := hid (by unfold pickR; rw [if_pos h1])
    have H := hid h; clear h
    generalize pickR L id a d = rr at *
    go_enter Try.func13, Try.ntmps13
    go_wp2
    go_ret2
    exact ⟨by rw [HE.out]; rfl, by rw [HE.out]; exact PNext.same H.out (Only.refl _ _)⟩
  · by_cases hr : roomE L id = 0
    · by_cases h2 : 0 ≤ d
      · exact pickPL w g v L id a d _ h2 rfl h (roomE_len hr) h1 hr
      · exact pickNL w g v L id a d (by omega) h (roomE_len hr) h1 hr
    · have HE : Hid (pickR L id a d = (0, roomE L id, L)) := hid (by unfold pickR; rw [if_neg h1, if_pos hr])
      have H := hid h
      have HR := hid (roomL w g v L id h hn)
      clear h
      generalize pickR L id a d = rr at *
      generalize roomE L id = q at *
      go_enter Try.func13, Try.ntmps13
      go_wp2_with fail
      refine HR.out.mono ?_
      rintro x w1 ⟨rfl, o1⟩
      have Q := hid o1; clear o1
      go_wp2
      go_ret2
      exact ⟨by rw [HE.out]; rfl, by rw [HE.out]; exact PNext.same H.out Q.out⟩
set_option maxRecDepth 100000 in
set_option maxHeartbeats 1000000 in
theorem pickD (w : World) (g : Nat) (v : Value) (L : List Bd) (id a d : Int) (h : PE w g v L) (hn : L.length ≤ 64) :
    Calls Try.prog 46 #[.pointer (some ⟨g, 0, none⟩), .int .i64 id, .int .u32 a, .int .i64 d] w fun x w' => x = .returned (.tuple #[.int .i64 (pickR L id a d).1, .int .i64 (pickR L id a d).2.1]) ∧ DNext w g v (pickR L id a d).2.2 w' := by
  by_cases h1 : id < 0
  · have HE : Hid (pickR L id a d = (0, 1, L)) := hid (by unfold pickR; rw [if_pos h1])
    have H := hid h; clear h
    generalize pickR L id a d = rr at *
    go_enter Try.func46, Try.ntmps46
    go_wp2
    go_ret2
    exact ⟨by rw [HE.out]; rfl, by rw [HE.out]; exact DNext.same H.out (Only.refl _ _)⟩
  · by_cases hr : roomE L id = 0
    · by_cases h2 : 0 < d
      · exact pickPD w g v L id a d _ h2 rfl h (roomE_len hr) h1 hr
      · exact pickND w g v L id a d (by omega) h (roomE_len hr) h1 hr
    · have H := hid h
      have HR := hid (spotD w g v L id h hn)
      obtain ⟨A, c, rfl, hb⟩ := h.form
      have HO := hid h.1
      clear h hb
      by_cases q1 : 0 ≤ spot L id
      · have HE : Hid (pickR L id a d = (0, 8, L)) := hid (by unfold pickR; rw [if_neg h1, if_pos hr]; unfold roomE; rw [if_pos q1])
        clear hr
        generalize pickR L id a d = rr at *
        generalize spot L id = q at *
        go_enter Try.func46, Try.ntmps46
        go_wp2_with fail
        refine HR.out.mono ?_
        rintro x w1 ⟨rfl, o1⟩
        have Q := hid o1; clear o1
        go_wp2
        go_ret2
        exact ⟨by rw [HE.out]; rfl, by rw [HE.out]; exact DNext.same H.out Q.out⟩
      · have q2 : 64 ≤ L.length := by
          unfold roomE at hr
          rw [if_neg q1] at hr
          split at hr
          · assumption
          · omega
        have HE : Hid (pickR L id a d = (0, 6, L)) := hid (by unfold pickR; rw [if_neg h1, if_pos hr]; unfold roomE; rw [if_neg q1, if_pos q2])
        have q3 : (64 : Int) ≤ L.length := by omega
        clear hr
        generalize pickR L id a d = rr at *
        generalize spot L id = q at *
        go_enter Try.func46, Try.ntmps46
        go_wp2_with fail
        refine HR.out.mono ?_
        rintro x w1 ⟨rfl, o1⟩
        have c0 := (HO.out.only o1 (by simp)).cell 0
        have Q := hid o1; clear o1
        go_wp2
        go_ret2
        exact ⟨by rw [HE.out]; rfl, by rw [HE.out]; exact DNext.same H.out Q.out⟩
end Go.Proofs.Ytnhakcgkhhficaa.udp
/-
  Chapter 11 (udp): Connect of a Ports that holds any list of bindings, by a walk of the text. Conditions: none but those typed.
-/
namespace Go.Proofs.Ytnhakcgkhhficaa.udp
set_option linter.unusedVariables false
set_option linter.unusedSimpArgs false
open Go.ChangeShapes Go.WideShapes Go.ChangeAt Go.RowKit Go.IntWalk Go.Lib
set_option maxRecDepth 100000 in
set_option maxHeartbeats 2000000 in
theorem connL (w : World) (g : Nat) (v : Value) (L : List Bd) (id a p : Int) (h : PV w g v L) (hn : L.length ≤ 64) : Calls Try.prog 16 #[.pointer (some ⟨g, 0, none⟩), .int .i64 id, .int .u32 a, .int .i64 p] w fun x w' => x = .returned (.int .i64 (connE L id p)) ∧ PNext w g v (connS L id a p) w' := by
  have H := hid h
  have hne := own_neP h.1 h.2
  obtain ⟨A, c, rfl, hb⟩ := h.form
  have HO := hid h.1
  have HB := hid hb
  clear h hb
  have Q : Hid (Only [] w w) := hid (Only.refl _ _)
  have HP := hid (placeL w g _ L id H.out hn)
  rcases spot_cases L id with hk | ⟨k, hkn, hk⟩
  · have HE : Hid (connE L id p = 7) := hid (by unfold connE; rw [hk]; rfl)
    have HS : Hid (connS L id a p = L) := hid (by unfold connS; rw [HE.out]; rfl)
    rw [hk] at HP
    go_enter Try.func16, Try.ntmps16
    go_wp2_with fail
    refine HP.out.mono ?_
    rintro x w1 ⟨rfl, o1⟩
    have c0 := (HO.out.only o1 (by simp)).cell 0
    have Q := hid (Q.out.trans o1); clear o1
    go_wp2
    go_ret
    exact ⟨rInt HE.out.symm, by rw [HS.out]; exact PNext.same H.out Q.out⟩
  · by_cases h1 : p < 0
    · have HE : Hid (connE L id p = 1) := hid (by unfold connE; rw [hk, if_neg (by omega), if_pos (.inl h1)])
      have HS : Hid (connS L id a p = L) := hid (by unfold connS; rw [HE.out]; rfl)
      rw [hk] at HP
      go_enter Try.func16, Try.ntmps16
      go_wp2_with fail
      refine HP.out.mono ?_
      rintro x w1 ⟨rfl, o1⟩
      have c0 := (HO.out.only o1 (by simp)).cell 0
      have Q := hid (Q.out.trans o1); clear o1
      go_wp2_with fail
      refine (port0 _ p 0 (.inl h1)).mono ?_
      rintro x w' ⟨rfl, rfl⟩
      go_wp2
      go_ret
      exact ⟨rInt HE.out.symm, by rw [HS.out]; exact PNext.same H.out Q.out⟩
    · by_cases h2 : 65535 < p
      · have HE : Hid (connE L id p = 1) := hid (by unfold connE; rw [hk, if_neg (by omega), if_pos (.inr h2)])
        have HS : Hid (connS L id a p = L) := hid (by unfold connS; rw [HE.out]; rfl)
        rw [hk] at HP
        go_enter Try.func16, Try.ntmps16
        go_wp2_with fail
        refine HP.out.mono ?_
        rintro x w1 ⟨rfl, o1⟩
        have c0 := (HO.out.only o1 (by simp)).cell 0
        have Q := hid (Q.out.trans o1); clear o1
        go_wp2_with fail
        refine (port0 _ p 0 (.inr h2)).mono ?_
        rintro x w' ⟨rfl, rfl⟩
        go_wp2
        go_ret
        exact ⟨rInt HE.out.symm, by rw [HS.out]; exact PNext.same H.out Q.out⟩
      · have HE : Hid (connE L id p = 0) := hid (by unfold connE; rw [hk, if_neg (by omega), if_neg (by omega)])
        have HS : Hid (connS L id a p = peer L k a p) := hid (by unfold connS; rw [HE.out, if_pos rfl, hk]; rfl)
        rw [hk] at HP
        have hkl : (k : Int) < L.length := by omega
        go_enter Try.func16, Try.ntmps16
        go_wp2_with fail
        refine HP.out.mono ?_
        rintro x w1 ⟨rfl, o1⟩
        have H1 := hid (H.out.only_nil o1)
        have c0 := H1.out.1.cell 0
        have hlt := H1.out.1.lt
        have Q := hid (Q.out.trans o1)
        obtain ⟨b, off, rfl, hb, hc⟩ := (HB.out.only_nil o1) (by omega)
        clear o1
        obtain rfl : off = 0 := by
          rcases H1.out.2.2 with ⟨h', _⟩ | ⟨g', cap', cur, h', _⟩
          · simp at h'
          · injection h' with h'; injection h' with h'; injection h' with _ h'
        obtain ⟨q0, q1, q2, q3, q4⟩ := hc k hkn
        rw [Nat.zero_add] at q0 q1 q2 q3 q4
        have z3 := World.ownsRow.frozenAt H1.out.2 (k * 5 + 3)
        have z4 := World.ownsRow.frozenAt H1.out.2 (k * 5 + 4)
        have gb : g ≠ b := fun e => hne (by simp [Value.ownBlock, e])
        clear hc
        go_wp2_with fail
        refine (port1 _ p 0 (by omega) (by omega)).mono ?_
        rintro x w' ⟨rfl, rfl⟩
        go_wp2
        go_region
        go_wp2
        go_ret
        have s1 := (World.ownsRow.stored H1.out.2 (k * 5 + 3) (.int .u32 a)).1
        have s2 := (World.ownsRow.stored s1 (k * 5 + 4) (.int .i64 p)).1
        refine ⟨rInt HE.out.symm, ?_⟩
        rw [HS.out]
        have o3 : Only (g :: (Value.slice (some ⟨b, 0, none⟩) L.length c).ownBlock.toList) w ((w1.setCell ⟨b, k * 5 + 3, none⟩ (.int .u32 a)).setCell ⟨b, k * 5 + 4, none⟩ (.int .i64 p)) := ((Only.wide Q.out).setCell (p := ⟨b, k * 5 + 3, none⟩) (.inl (by simp [Value.ownBlock])) _).setCell (p := ⟨b, k * 5 + 4, none⟩) (.inl (by simp [Value.ownBlock])) _
        have p3 : PV ((w1.setCell ⟨b, k * 5 + 3, none⟩ (.int .u32 a)).setCell ⟨b, k * 5 + 4, none⟩ (.int .i64 p)) g (.slice (some ⟨b, 0, none⟩) L.length c) (peer L k a p) := by
          refine ⟨(H1.out.1.far (p := ⟨b, k * 5 + 3, none⟩) gb _).far (p := ⟨b, k * 5 + 4, none⟩) gb _, ?_⟩
          rw [peer_len, bcs_peer a p L k hkn]
          exact s2
        exact ⟨_, p3.only_nil ((Only.refl [] _).drew), fun b hb => .inl hb, o3.drew⟩
end Go.Proofs.Ytnhakcgkhhficaa.udp
/-
  Chapter 11 (udp): a script's step in both Ports, and all steps, by a walk of each text. Conditions: none but those typed.
-/
namespace Go.Proofs.Ytnhakcgkhhficaa.udp
set_option linter.unusedVariables false
set_option linter.unusedSimpArgs false
open Go.ChangeShapes Go.WideShapes Go.ChangeAt Go.RowKit Go.IntWalk Go.Lib
theorem bindS_len (L : List Bd) (id a p : Int) (h : L.length ≤ 64) : (bindS L id a p).length ≤ 64 := by
  unfold bindS
  split
  · rename_i h1
    unfold bindE at h1
    split at h1
    · omega
    · split at h1
      · omega
      · split at h1
        · omega
        · simp; omega
  · exact h
theorem pickR_len (L : List Bd) (id a d : Int) (h : L.length ≤ 64) : (pickR L id a d).2.2.length ≤ 64 := by
  unfold pickR
  split
  · exact h
  · split
    · exact h
    · rename_i h1
      have := roomE_len (L := L) (id := id) (by simpa using h1)
      split <;> simp <;> omega
theorem connS_len (L : List Bd) (id a p : Int) (h : L.length ≤ 64) : (connS L id a p).length ≤ 64 := by
  unfold connS
  split
  · rw [peer_len]; exact h
  · exact h
theorem rows_ne {w : World} {b1 b2 s1 s2 n1 n2 : Nat} {e1 e2 : TypeId} {v1 v2 : Value} {x1 x2 : List Value} (h1 : w.ownsRow b1 e1 s1 v1 n1 x1) (h2 : w.ownsRow b2 e2 s2 v2 n2 x2) (he : e1 ≠ e2) : ∀ b, v1.ownBlock = some b → v2.ownBlock ≠ some b := by
  intro b k1 k2
  rcases h1.2 with ⟨hv, _⟩ | ⟨g, cap, cur, hv, _, hh, _⟩
  · rw [hv] at k1; cases k1
  · rcases h2.2 with ⟨hv2, _⟩ | ⟨g2, cap2, cur2, hv2, _, hh2, _⟩
    · rw [hv2] at k2; cases k2
    · rw [hv] at k1; rw [hv2] at k2
      have e1' : g = b := by simpa [Value.ownBlock] using k1
      have e2' : g2 = b := by simpa [Value.ownBlock] using k2
      subst e1'; subst e2'
      rw [hh] at hh2
      injection hh2 with h3; injection h3 with _ h4
      exact he h4
theorem row_ob {w : World} {b1 s1 n1 g : Nat} {e1 T : TypeId} {v1 : Value} {x1 : List Value} {cs : Array Value} (h1 : w.ownsRow b1 e1 s1 v1 n1 x1) (h2 : Ob w g T cs) (he : e1 ≠ T) : v1.ownBlock ≠ some g := by
  intro k1
  rcases h1.2 with ⟨hv, _⟩ | ⟨b, cap, cur, hv, _, hh, _⟩
  · rw [hv] at k1; cases k1
  · rw [hv] at k1
    have e1' : b = g := by simpa [Value.ownBlock] using k1
    subst e1'
    unfold Ob at h2
    rw [hh] at h2
    injection h2 with h3; injection h3 with _ h4
    exact he h4
theorem ob_ne {w : World} {g g' : Nat} {T T' : TypeId} {cs cs' : Array Value} (h1 : Ob w g T cs) (h2 : Ob w g' T' cs') (he : T ≠ T') : g ≠ g' := by
  intro e
  subst e
  unfold Ob at h1 h2
  rw [h1] at h2
  injection h2 with h3; injection h3 with _ h4
  exact he h4
/-- Both hold L, in blocks that were not there at w0; else all is as it was at w0; the block t holds cs. -/
structure Inv (w0 w : World) (g ge t : Nat) (v ve : Value) (L LE : List Bd) (cs : Array Value) : Prop where
  pv : PV w g v L
  pe : PE w ge ve LE
  on : Only [] w0 w
  lg : w0.heap.size ≤ g
  le : w0.heap.size ≤ ge
  lv : ∀ b, v.ownBlock = some b → w0.heap.size ≤ b
  lw : ∀ b, ve.ownBlock = some b → w0.heap.size ≤ b
  bx : Ob w t 63 cs
theorem Inv.drew {w0 w W : World} {g ge t : Nat} {v ve : Value} {L LE : List Bd} {cs : Array Value} (h : Inv w0 w g ge t v ve L LE cs) (e : W = w.drew) : Inv w0 W g ge t v ve L LE cs := by
  subst e
  exact ⟨h.pv.only_nil ((Only.refl [] _).drew), h.pe.only_nil ((Only.refl [] _).drew), h.on.drew, h.lg, h.le, h.lv, h.lw, h.bx.drew⟩
theorem Inv.nil {w0 w W : World} {g ge t : Nat} {v ve : Value} {L LE : List Bd} {cs : Array Value} (h : Inv w0 w g ge t v ve L LE cs) (o : Only [] w W) : Inv w0 W g ge t v ve L LE cs :=
  ⟨h.pv.only_nil o, h.pe.only_nil o, h.on.trans o, h.lg, h.le, h.lv, h.lw, h.bx.only o (by simp)⟩
theorem Inv.P {w0 w w' : World} {g ge t : Nat} {v ve : Value} {L LE L' : List Bd} {cs : Array Value} (h : Inv w0 w g ge t v ve L LE cs) (n : PNext w g v L' w') : ∃ v', Inv w0 w' g ge t v' ve L' LE cs := by
  obtain ⟨v', hp, hb, o⟩ := n
  have g1 : ge ≠ g := ob_ne h.pe.1 h.pv.1 (by decide)
  have g2 : t ≠ g := ob_ne h.bx h.pv.1 (by decide)
  have g3 := row_ob h.pv.2 h.pe.1 (by decide)
  have g4 := row_ob h.pv.2 h.bx (by decide)
  have g5 := row_ob h.pe.2 h.pv.1 (by decide)
  have g6 := rows_ne h.pe.2 h.pv.2 (by decide)
  refine ⟨v', hp, h.pe.only o ?_ ?_, ?_, h.lg, h.le, fun b hb' => ?_, h.lw, h.bx.only o ?_⟩
  · intro hm
    rcases List.mem_cons.1 hm with e | e
    · exact g1 e
    · exact g3 (by simpa using e)
  · intro b hb' hm
    rcases List.mem_cons.1 hm with e | e
    · subst e; exact g5 hb'
    · exact g6 b hb' (by simpa using e)
  · exact h.on.fresh o (fun i hi => by
      rcases List.mem_cons.1 hi with e | e
      · subst e; exact .inr h.lg
      · exact .inr (h.lv i (by simpa using e)))
  · rcases hb b hb' with e | e
    · exact h.lv b e
    · exact Nat.le_trans h.on.size e
  · intro hm
    rcases List.mem_cons.1 hm with e | e
    · exact g2 e
    · exact g4 (by simpa using e)
theorem Inv.D {w0 w w' : World} {g ge t : Nat} {v ve : Value} {L LE L' : List Bd} {cs : Array Value} (h : Inv w0 w g ge t v ve L LE cs) (n : DNext w ge ve L' w') : ∃ ve', Inv w0 w' g ge t v ve' L L' cs := by
  obtain ⟨v', hp, hb, o⟩ := n
  have g1 : g ≠ ge := ob_ne h.pv.1 h.pe.1 (by decide)
  have g2 : t ≠ ge := ob_ne h.bx h.pe.1 (by decide)
  have g3 := row_ob h.pe.2 h.pv.1 (by decide)
  have g4 := row_ob h.pe.2 h.bx (by decide)
  have g5 := row_ob h.pv.2 h.pe.1 (by decide)
  have g6 := rows_ne h.pv.2 h.pe.2 (by decide)
  refine ⟨v', h.pv.only o ?_ ?_, hp, ?_, h.lg, h.le, h.lv, fun b hb' => ?_, h.bx.only o ?_⟩
  · intro hm
    rcases List.mem_cons.1 hm with e | e
    · exact g1 e
    · exact g3 (by simpa using e)
  · intro b hb' hm
    rcases List.mem_cons.1 hm with e | e
    · subst e; exact g5 hb'
    · exact g6 b hb' (by simpa using e)
  · exact h.on.fresh o (fun i hi => by
      rcases List.mem_cons.1 hi with e | e
      · subst e; exact .inr h.le
      · exact .inr (h.lw i (by simpa using e)))
  · rcases hb b hb' with e | e
    · exact h.lw b e
    · exact Nat.le_trans h.on.size e
  · intro hm
    rcases List.mem_cons.1 hm with e | e
    · exact g2 e
    · exact g4 (by simpa using e)
/-- Where a step may lead to. -/
def After (w0 : World) (g ge t : Nat) (cs : Array Value) (w' : World) : Prop := ∃ v' ve' L', L'.length ≤ 64 ∧ Inv w0 w' g ge t v' ve' L' L' cs
set_option maxRecDepth 100000 in
set_option maxHeartbeats 4000000 in
theorem does1 (w0 w : World) (g ge : Nat) (v ve : Value) (L : List Bd) (HV : Hid (PV w g v L)) (HE : Hid (PE w ge ve L)) (HON : Hid (Only [] w0 w)) (hlg : w0.heap.size ≤ g) (hle : w0.heap.size ≤ ge) (hlv : ∀ b, v.ownBlock = some b → w0.heap.size ≤ b) (hlw : ∀ b, ve.ownBlock = some b → w0.heap.size ≤ b) (hn : L.length ≤ 64)
    (id pt nn a fr fp to tp : Int) (Ad : Option Addr) (nd cd : Nat) :
    Calls Try.prog 28 #[.pointer (some ⟨g, 0, none⟩), .pointer (some ⟨ge, 0, none⟩), .agg #[.int .i64 1, .int .i64 id, .int .i64 pt, .int .i64 nn, .int .u32 a, .int .u32 fr, .int .i64 fp, .int .u32 to, .int .i64 tp, .slice Ad nd cd]] w fun x w' => x = .returned (.bool true) ∧ After w0 g ge w.heap.size #[.int .i64 1, .int .i64 id, .int .i64 pt, .int .i64 nn, .int .u32 a, .int .u32 fr, .int .i64 fp, .int .u32 to, .int .i64 tp, .slice Ad nd cd] w' := by
  have HI : Hid (Inv w0 (w.alloc (.cells #[.int .i64 1, .int .i64 id, .int .i64 pt, .int .i64 nn, .int .u32 a, .int .u32 fr, .int .i64 fp, .int .u32 to, .int .i64 tp, .slice Ad nd cd] 63)) g ge w.heap.size v ve L L #[.int .i64 1, .int .i64 id, .int .i64 pt, .int .i64 nn, .int .u32 a, .int .u32 fr, .int .i64 fp, .int .u32 to, .int .i64 tp, .slice Ad nd cd]) := hid ⟨HV.out.only_nil ((Only.refl [] _).alloc _), HE.out.only_nil ((Only.refl [] _).alloc _), HON.out.alloc _, hlg, hle, hlv, hlw, Ob.new _ _ _⟩
  clear HV HE HON hlv hlw
  have HCP := fun (W : World) (v' : Value) (h : PV W g v' L) => bindL W g v' L id a pt h hn
  have HCD := fun (W : World) (v' : Value) (h : PE W ge v' L) => bindD W ge v' L id a pt h hn
  have HLen := hid (bindS_len L id a pt hn)
  generalize bindE L id a pt = e at *
  generalize bindS L id a pt = L2 at *
  have HCP := hid HCP; have HCD := hid HCD
  go_enter Try.func28, Try.ntmps28
  have k0 := HI.out.bx.cell 0
  go_wp2_with fail
  generalize w.alloc (.cells #[.int .i64 1, .int .i64 id, .int .i64 pt, .int .i64 nn, .int .u32 a, .int .u32 fr, .int .i64 fp, .int .u32 to, .int .i64 tp, .slice Ad nd cd] 63) = W at *
  clear k0
  have k1 := HI.out.bx.cell 1; have k2 := HI.out.bx.cell 2; have k4 := HI.out.bx.cell 4
  have HI := hid (HI.out.drew rfl)
  go_region_held3 (fun w' => w'.cell? ⟨w.heap.size, 1, none⟩ = some (.int .i64 id) ∧ w'.cell? ⟨w.heap.size, 2, none⟩ = some (.int .i64 pt) ∧ w'.cell? ⟨w.heap.size, 4, none⟩ = some (.int .u32 a)) (go_keep) (first
    | (go_at_call 15; refine (HCP.out _ _ HI.out.pv).mono ?_; rintro x w4 ⟨rfl, n4⟩; obtain ⟨v4, i4⟩ := HI.out.P n4; have HI := hid i4; clear n4 i4; have k1 := HI.out.bx.cell 1; have k2 := HI.out.bx.cell 2; have k4 := HI.out.bx.cell 4)
    | (go_at_call 45; refine (HCD.out _ _ HI.out.pe).mono ?_; rintro x w4 ⟨rfl, n4⟩; obtain ⟨v4, i4⟩ := HI.out.D n4; have HI := hid i4; clear n4 i4; have k1 := HI.out.bx.cell 1; have k2 := HI.out.bx.cell 2; have k4 := HI.out.bx.cell 4))
  all_goals go_wp2
  all_goals go_ret
  all_goals exact ⟨rBool (by simp), _, _, _, HLen.out, HI.out⟩
set_option maxRecDepth 100000 in
set_option maxHeartbeats 4000000 in
theorem does3 (w0 w : World) (g ge : Nat) (v ve : Value) (L : List Bd) (HV : Hid (PV w g v L)) (HE : Hid (PE w ge ve L)) (HON : Hid (Only [] w0 w)) (hlg : w0.heap.size ≤ g) (hle : w0.heap.size ≤ ge) (hlv : ∀ b, v.ownBlock = some b → w0.heap.size ≤ b) (hlw : ∀ b, ve.ownBlock = some b → w0.heap.size ≤ b) (hn : L.length ≤ 64)
    (id pt nn a fr fp to tp : Int) (Ad : Option Addr) (nd cd : Nat) :
    Calls Try.prog 28 #[.pointer (some ⟨g, 0, none⟩), .pointer (some ⟨ge, 0, none⟩), .agg #[.int .i64 3, .int .i64 id, .int .i64 pt, .int .i64 nn, .int .u32 a, .int .u32 fr, .int .i64 fp, .int .u32 to, .int .i64 tp, .slice Ad nd cd]] w fun x w' => x = .returned (.bool true) ∧ After w0 g ge w.heap.size #[.int .i64 3, .int .i64 id, .int .i64 pt, .int .i64 nn, .int .u32 a, .int .u32 fr, .int .i64 fp, .int .u32 to, .int .i64 tp, .slice Ad nd cd] w' := by
  have HI : Hid (Inv w0 (w.alloc (.cells #[.int .i64 3, .int .i64 id, .int .i64 pt, .int .i64 nn, .int .u32 a, .int .u32 fr, .int .i64 fp, .int .u32 to, .int .i64 tp, .slice Ad nd cd] 63)) g ge w.heap.size v ve L L #[.int .i64 3, .int .i64 id, .int .i64 pt, .int .i64 nn, .int .u32 a, .int .u32 fr, .int .i64 fp, .int .u32 to, .int .i64 tp, .slice Ad nd cd]) := hid ⟨HV.out.only_nil ((Only.refl [] _).alloc _), HE.out.only_nil ((Only.refl [] _).alloc _), HON.out.alloc _, hlg, hle, hlv, hlw, Ob.new _ _ _⟩
  clear HV HE HON hlv hlw
  have HCP := fun (W : World) (v' : Value) (h : PV W g v' L) => connL W g v' L id a pt h hn
  have HCD := fun (W : World) (v' : Value) (h : PE W ge v' L) => connD W ge v' L id a pt h hn
  have HLen := hid (connS_len L id a pt hn)
  generalize connE L id pt = e at *
  generalize connS L id a pt = L2 at *
  have HCP := hid HCP; have HCD := hid HCD
  go_enter Try.func28, Try.ntmps28
  have k0 := HI.out.bx.cell 0
  go_wp2_with fail
  generalize w.alloc (.cells #[.int .i64 3, .int .i64 id, .int .i64 pt, .int .i64 nn, .int .u32 a, .int .u32 fr, .int .i64 fp, .int .u32 to, .int .i64 tp, .slice Ad nd cd] 63) = W at *
  clear k0
  have k1 := HI.out.bx.cell 1; have k2 := HI.out.bx.cell 2; have k4 := HI.out.bx.cell 4
  have HI := hid (HI.out.drew rfl)
  go_region_held3 (fun w' => w'.cell? ⟨w.heap.size, 1, none⟩ = some (.int .i64 id) ∧ w'.cell? ⟨w.heap.size, 2, none⟩ = some (.int .i64 pt) ∧ w'.cell? ⟨w.heap.size, 4, none⟩ = some (.int .u32 a)) (go_keep) (first
    | (go_at_call 16; refine (HCP.out _ _ HI.out.pv).mono ?_; rintro x w4 ⟨rfl, n4⟩; obtain ⟨v4, i4⟩ := HI.out.P n4; have HI := hid i4; clear n4 i4; have k1 := HI.out.bx.cell 1; have k2 := HI.out.bx.cell 2; have k4 := HI.out.bx.cell 4)
    | (go_at_call 47; refine (HCD.out _ _ HI.out.pe).mono ?_; rintro x w4 ⟨rfl, n4⟩; obtain ⟨v4, i4⟩ := HI.out.D n4; have HI := hid i4; clear n4 i4; have k1 := HI.out.bx.cell 1; have k2 := HI.out.bx.cell 2; have k4 := HI.out.bx.cell 4))
  all_goals go_wp2
  all_goals go_ret
  all_goals exact ⟨rBool (by simp), _, _, _, HLen.out, HI.out⟩
set_option maxRecDepth 100000 in
set_option maxHeartbeats 4000000 in
theorem does4 (w0 w : World) (g ge : Nat) (v ve : Value) (L : List Bd) (HV : Hid (PV w g v L)) (HE : Hid (PE w ge ve L)) (HON : Hid (Only [] w0 w)) (hlg : w0.heap.size ≤ g) (hle : w0.heap.size ≤ ge) (hlv : ∀ b, v.ownBlock = some b → w0.heap.size ≤ b) (hlw : ∀ b, ve.ownBlock = some b → w0.heap.size ≤ b) (hn : L.length ≤ 64)
    (id pt nn a fr fp to tp : Int) (Ad : Option Addr) (nd cd : Nat) :
    Calls Try.prog 28 #[.pointer (some ⟨g, 0, none⟩), .pointer (some ⟨ge, 0, none⟩), .agg #[.int .i64 4, .int .i64 id, .int .i64 pt, .int .i64 nn, .int .u32 a, .int .u32 fr, .int .i64 fp, .int .u32 to, .int .i64 tp, .slice Ad nd cd]] w fun x w' => x = .returned (.bool true) ∧ After w0 g ge w.heap.size #[.int .i64 4, .int .i64 id, .int .i64 pt, .int .i64 nn, .int .u32 a, .int .u32 fr, .int .i64 fp, .int .u32 to, .int .i64 tp, .slice Ad nd cd] w' := by
  have HI : Hid (Inv w0 (w.alloc (.cells #[.int .i64 4, .int .i64 id, .int .i64 pt, .int .i64 nn, .int .u32 a, .int .u32 fr, .int .i64 fp, .int .u32 to, .int .i64 tp, .slice Ad nd cd] 63)) g ge w.heap.size v ve L L #[.int .i64 4, .int .i64 id, .int .i64 pt, .int .i64 nn, .int .u32 a, .int .u32 fr, .int .i64 fp, .int .u32 to, .int .i64 tp, .slice Ad nd cd]) := hid ⟨HV.out.only_nil ((Only.refl [] _).alloc _), HE.out.only_nil ((Only.refl [] _).alloc _), HON.out.alloc _, hlg, hle, hlv, hlw, Ob.new _ _ _⟩
  clear HV HE HON hlv hlw
  have HCP := fun (W : World) (v' : Value) (h : PV W g v' L) => freeL W g v' L id h hn
  have HCD := fun (W : World) (v' : Value) (h : PE W ge v' L) => freeD W ge v' L id h hn
  have HLen := hid (freeS_len L id hn)
  generalize freeB L id = e at *
  generalize freeS L id = L2 at *
  have HCP := hid HCP; have HCD := hid HCD
  go_enter Try.func28, Try.ntmps28
  have k0 := HI.out.bx.cell 0
  go_wp2_with fail
  generalize w.alloc (.cells #[.int .i64 4, .int .i64 id, .int .i64 pt, .int .i64 nn, .int .u32 a, .int .u32 fr, .int .i64 fp, .int .u32 to, .int .i64 tp, .slice Ad nd cd] 63) = W at *
  clear k0
  have k1 := HI.out.bx.cell 1
  have HI := hid (HI.out.drew rfl)
  go_region_held3 (fun w' => w'.cell? ⟨w.heap.size, 1, none⟩ = some (.int .i64 id)) (go_keep) (first
    | (go_at_call 17; refine (HCP.out _ _ HI.out.pv).mono ?_; rintro x w4 ⟨rfl, n4⟩; obtain ⟨v4, i4⟩ := HI.out.P n4; have HI := hid i4; clear n4 i4; have k1 := HI.out.bx.cell 1)
    | (go_at_call 48; refine (HCD.out _ _ HI.out.pe).mono ?_; rintro x w4 ⟨rfl, n4⟩; obtain ⟨v4, i4⟩ := HI.out.D n4; have HI := hid i4; clear n4 i4; have k1 := HI.out.bx.cell 1))
  all_goals go_wp2
  all_goals go_ret
  all_goals exact ⟨rBool (by simp), _, _, _, HLen.out, HI.out⟩
set_option maxRecDepth 100000 in
set_option maxHeartbeats 4000000 in
theorem does2 (w0 w : World) (g ge : Nat) (v ve : Value) (L : List Bd) (HV : Hid (PV w g v L)) (HE : Hid (PE w ge ve L)) (HON : Hid (Only [] w0 w)) (hlg : w0.heap.size ≤ g) (hle : w0.heap.size ≤ ge) (hlv : ∀ b, v.ownBlock = some b → w0.heap.size ≤ b) (hlw : ∀ b, ve.ownBlock = some b → w0.heap.size ≤ b) (hn : L.length ≤ 64)
    (id pt nn a fr fp to tp : Int) (Ad : Option Addr) (nd cd : Nat) :
    Calls Try.prog 28 #[.pointer (some ⟨g, 0, none⟩), .pointer (some ⟨ge, 0, none⟩), .agg #[.int .i64 2, .int .i64 id, .int .i64 pt, .int .i64 nn, .int .u32 a, .int .u32 fr, .int .i64 fp, .int .u32 to, .int .i64 tp, .slice Ad nd cd]] w fun x w' => x = .returned (.bool true) ∧ After w0 g ge w.heap.size #[.int .i64 2, .int .i64 id, .int .i64 pt, .int .i64 nn, .int .u32 a, .int .u32 fr, .int .i64 fp, .int .u32 to, .int .i64 tp, .slice Ad nd cd] w' := by
  have HI : Hid (Inv w0 (w.alloc (.cells #[.int .i64 2, .int .i64 id, .int .i64 pt, .int .i64 nn, .int .u32 a, .int .u32 fr, .int .i64 fp, .int .u32 to, .int .i64 tp, .slice Ad nd cd] 63)) g ge w.heap.size v ve L L #[.int .i64 2, .int .i64 id, .int .i64 pt, .int .i64 nn, .int .u32 a, .int .u32 fr, .int .i64 fp, .int .u32 to, .int .i64 tp, .slice Ad nd cd]) := hid ⟨HV.out.only_nil ((Only.refl [] _).alloc _), HE.out.only_nil ((Only.refl [] _).alloc _), HON.out.alloc _, hlg, hle, hlv, hlw, Ob.new _ _ _⟩
  clear HV HE HON hlv hlw
  have HCP := fun (W : World) (v' : Value) (h : PV W g v' L) => pickL W g v' L id a nn h hn
  have HCD := fun (W : World) (v' : Value) (h : PE W ge v' L) => pickD W ge v' L id a nn h hn
  have HLen := hid (pickR_len L id a nn hn)
  generalize pickR L id a nn = e at *
  obtain ⟨e1, e2, L2⟩ := e
  have HCP := hid HCP; have HCD := hid HCD
  go_enter Try.func28, Try.ntmps28
  have k0 := HI.out.bx.cell 0; have k1 := HI.out.bx.cell 1; have k2 := HI.out.bx.cell 2; have k3 := HI.out.bx.cell 3; have k4 := HI.out.bx.cell 4; have k5 := HI.out.bx.cell 5; have k6 := HI.out.bx.cell 6; have k7 := HI.out.bx.cell 7; have k8 := HI.out.bx.cell 8; have k9 := HI.out.bx.cell 9
  go_wp2_with fail
  refine (HCP.out _ _ HI.out.pv).mono ?_
  rintro x w4 ⟨rfl, n4⟩
  obtain ⟨v4, i4⟩ := HI.out.P n4
  have HI := hid i4
  clear n4 i4 k0 k1 k2 k3 k4 k5 k6 k7 k8 k9
  have k0 := HI.out.bx.cell 0; have k1 := HI.out.bx.cell 1; have k2 := HI.out.bx.cell 2; have k3 := HI.out.bx.cell 3; have k4 := HI.out.bx.cell 4; have k5 := HI.out.bx.cell 5; have k6 := HI.out.bx.cell 6; have k7 := HI.out.bx.cell 7; have k8 := HI.out.bx.cell 8; have k9 := HI.out.bx.cell 9
  go_wp2_with fail
  refine (HCD.out _ _ HI.out.pe).mono ?_
  rintro x w5 ⟨rfl, n5⟩
  obtain ⟨v5, i5⟩ := HI.out.D n5
  have HI := hid i5
  clear n5 i5 k0 k1 k2 k3 k4 k5 k6 k7 k8 k9
  go_wp2
  go_ret
  exact ⟨rBool (by simp), _, _, _, HLen.out, HI.out⟩
set_option maxRecDepth 100000 in
set_option maxHeartbeats 4000000 in
theorem does5 (w0 w : World) (g ge : Nat) (v ve : Value) (L : List Bd) (HV : Hid (PV w g v L)) (HE : Hid (PE w ge ve L)) (HON : Hid (Only [] w0 w)) (hlg : w0.heap.size ≤ g) (hle : w0.heap.size ≤ ge) (hlv : ∀ b, v.ownBlock = some b → w0.heap.size ≤ b) (hlw : ∀ b, ve.ownBlock = some b → w0.heap.size ≤ b) (hn : L.length ≤ 64)
    (kd id pt nn a fr fp to tp : Int) (Ad : Option Addr) (nd cd : Nat) (hk : kd ≠ 1 ∧ kd ≠ 2 ∧ kd ≠ 3 ∧ kd ≠ 4) :
    Calls Try.prog 28 #[.pointer (some ⟨g, 0, none⟩), .pointer (some ⟨ge, 0, none⟩), .agg #[.int .i64 kd, .int .i64 id, .int .i64 pt, .int .i64 nn, .int .u32 a, .int .u32 fr, .int .i64 fp, .int .u32 to, .int .i64 tp, .slice Ad nd cd]] w fun x w' => x = .returned (.bool true) ∧ After w0 g ge w.heap.size #[.int .i64 kd, .int .i64 id, .int .i64 pt, .int .i64 nn, .int .u32 a, .int .u32 fr, .int .i64 fp, .int .u32 to, .int .i64 tp, .slice Ad nd cd] w' := by
  have HI : Hid (Inv w0 (w.alloc (.cells #[.int .i64 kd, .int .i64 id, .int .i64 pt, .int .i64 nn, .int .u32 a, .int .u32 fr, .int .i64 fp, .int .u32 to, .int .i64 tp, .slice Ad nd cd] 63)) g ge w.heap.size v ve L L #[.int .i64 kd, .int .i64 id, .int .i64 pt, .int .i64 nn, .int .u32 a, .int .u32 fr, .int .i64 fp, .int .u32 to, .int .i64 tp, .slice Ad nd cd]) := hid ⟨HV.out.only_nil ((Only.refl [] _).alloc _), HE.out.only_nil ((Only.refl [] _).alloc _), HON.out.alloc _, hlg, hle, hlv, hlw, Ob.new _ _ _⟩
  clear HV HE HON hlv hlw
  have HCP := fun (W : World) (v' : Value) (h : PV W g v' L) => findL W g v' L fr fp to tp Ad nd cd h hn
  have HCD := fun (W : World) (v' : Value) (h : PE W ge v' L) => findD W ge v' L fr fp to tp Ad nd cd h hn
  generalize fnd L fr fp to tp L.length = e at *
  obtain ⟨e1, e2⟩ := e
  have HCP := hid HCP; have HCD := hid HCD
  obtain ⟨h1, h2, h3, h4⟩ := hk
  have d1 : (kd == 1) = false := by simpa using h1
  have d2 : (kd == 2) = false := by simpa using h2
  have d3 : (kd == 3) = false := by simpa using h3
  have d4 : (kd == 4) = false := by simpa using h4
  clear h1 h2 h3 h4
  go_enter Try.func28, Try.ntmps28
  have k0 := HI.out.bx.cell 0; have k1 := HI.out.bx.cell 1; have k2 := HI.out.bx.cell 2; have k3 := HI.out.bx.cell 3; have k4 := HI.out.bx.cell 4; have k5 := HI.out.bx.cell 5; have k6 := HI.out.bx.cell 6; have k7 := HI.out.bx.cell 7; have k8 := HI.out.bx.cell 8; have k9 := HI.out.bx.cell 9
  go_wp2_with fail
  refine (HCP.out _ _ HI.out.pv).mono ?_
  rintro x w4 ⟨rfl, n4⟩
  have HI := hid (HI.out.nil n4)
  clear n4 k0 k1 k2 k3 k4 k5 k6 k7 k8 k9
  have k0 := HI.out.bx.cell 0; have k1 := HI.out.bx.cell 1; have k2 := HI.out.bx.cell 2; have k3 := HI.out.bx.cell 3; have k4 := HI.out.bx.cell 4; have k5 := HI.out.bx.cell 5; have k6 := HI.out.bx.cell 6; have k7 := HI.out.bx.cell 7; have k8 := HI.out.bx.cell 8; have k9 := HI.out.bx.cell 9
  go_wp2_with fail
  refine (HCD.out _ _ HI.out.pe).mono ?_
  rintro x w5 ⟨rfl, n5⟩
  have HI := hid (HI.out.nil n5)
  clear n5 k0 k1 k2 k3 k4 k5 k6 k7 k8 k9
  go_wp2
  go_ret
  exact ⟨rBool (by simp), _, _, _, hn, HI.out⟩
def LInv (w0 wr : World) (g ge : Nat) : Prop := ∃ v ve L, L.length ≤ 64 ∧ PV wr g v L ∧ PE wr ge ve L ∧ Only [] w0 wr ∧ (∀ b, v.ownBlock = some b → w0.heap.size ≤ b) ∧ (∀ b, ve.ownBlock = some b → w0.heap.size ≤ b)
theorem LInv.on {w0 wr : World} {g ge : Nat} (h : LInv w0 wr g ge) : Only [] w0 wr := by obtain ⟨_, _, _, _, _, _, o, _⟩ := h; exact o
set_option maxRecDepth 100000 in
set_option maxHeartbeats 4000000 in
theorem portsPlay (w : World) (A : Option Addr) (len c : Nat) (V0 V1 V2 V3 V4 V5 V6 V7 V8 : Nat → Int) (RA9 : Nat → Option Addr) (RN9 RC9 : Nat → Nat) (P9 : Nat → List Int) (h : OplU w A len V0 V1 V2 V3 V4 V5 V6 V7 V8 RA9 RN9 RC9 P9) :
    Calls Try.prog 8 #[.slice A len c] w (fun e w' => e = .returned (.bool true) ∧ Only [] w w') := by
  have H := hid h; clear h
  have HI0 : Hid (LInv w ((w.alloc (.cells #[.slice none 0 0] 56)).alloc (.cells #[.slice none 0 0] 60)) w.heap.size (w.heap.size + 1)) := hid ⟨.slice none 0 0, .slice none 0 0, [], by simp, ⟨(Ob.new _ _ _).alloc _, World.ownsRow_nil _ _ _ _⟩, ⟨by simpa using Ob.new (w.alloc (.cells #[.slice none 0 0] 56)) 60 #[.slice none 0 0], World.ownsRow_nil _ _ _ _⟩, ((Only.refl [] w).alloc _).alloc _, (by intro b h; cases h), (by intro b h; cases h)⟩
  go_enter Try.func8, Try.ntmps8
  go_wp2
  go_loopw [5] (fun i wr => ∃ j : Nat, j ≤ min len 200 ∧ i = .int .i64 j ∧ Hid (LInv w wr w.heap.size (w.heap.size + 1))) (fun i _ => 200 - (RowKit.intOf i).toNat)
  case atStart => exact ⟨0, by omega, rfl, HI0⟩
  case round =>
    clear HI0
    obtain ⟨j, hj, rfl, HI⟩ := hrel
    by_cases hlt : j < min len 200
    · have hlt1 : j < len := by omega
      have hlt2 : (j : Int) < 200 := by omega
      obtain ⟨v, ve, L, hn, hV, hE, hon, hlv, hlw⟩ := HI.out
      have HV := hid hV; have HE := hid hE; have HON := hid hon
      clear hV hE hon
      obtain ⟨bc, oc, rfl, hbc, hcc⟩ := (H.out.only_nil HON.out).cells (by omega)
      obtain ⟨q0, q1, q2, q3, q4, q5, q6, q7, q8, q9⟩ := hcc j hlt1
      clear hcc HI
      generalize V0 j = kd at *
      generalize V1 j = id at *
      generalize V2 j = pt at *
      generalize V3 j = nn at *
      generalize V4 j = a at *
      generalize V5 j = fr at *
      generalize V6 j = fp at *
      generalize V7 j = to at *
      generalize V8 j = tp at *
      generalize RA9 j = Ad at *
      generalize RN9 j = nd at *
      generalize RC9 j = cd at *
      by_cases h1 : kd = 1
      · subst h1
        go_wp2_with fail
        refine (does1 w wr w.heap.size (w.heap.size + 1) v ve L HV HE HON (Nat.le_refl _) (Nat.le_succ _) hlv hlw hn id pt nn a fr fp to tp Ad nd cd).mono ?_
        rintro x w' ⟨rfl, v', ve', L', hn', i'⟩
        have HL9 : Hid (LInv w w' w.heap.size (w.heap.size + 1)) := hid ⟨v', ve', L', hn', i'.pv, i'.pe, i'.on, i'.lv, i'.lw⟩
        clear hn' i' q0 q1 q2 q3 q4 q5 q6 q7 q8 q9
        go_wp2
        go_roundw
        case rel => exact ⟨j + 1, by omega, by go_num, HL9⟩
        case measure => simp [RowKit.intOf]; omega
      · by_cases h2 : kd = 2
        · subst h2
          clear h1
          go_wp2_with fail
          refine (does2 w wr w.heap.size (w.heap.size + 1) v ve L HV HE HON (Nat.le_refl _) (Nat.le_succ _) hlv hlw hn id pt nn a fr fp to tp Ad nd cd).mono ?_
          rintro x w' ⟨rfl, v', ve', L', hn', i'⟩
          have HL9 : Hid (LInv w w' w.heap.size (w.heap.size + 1)) := hid ⟨v', ve', L', hn', i'.pv, i'.pe, i'.on, i'.lv, i'.lw⟩
          clear hn' i' q0 q1 q2 q3 q4 q5 q6 q7 q8 q9
          go_wp2
          go_roundw
          case rel => exact ⟨j + 1, by omega, by go_num, HL9⟩
          case measure => simp [RowKit.intOf]; omega
        · by_cases h3 : kd = 3
          · subst h3
            clear h1 h2
            go_wp2_with fail
            refine (does3 w wr w.heap.size (w.heap.size + 1) v ve L HV HE HON (Nat.le_refl _) (Nat.le_succ _) hlv hlw hn id pt nn a fr fp to tp Ad nd cd).mono ?_
            rintro x w' ⟨rfl, v', ve', L', hn', i'⟩
            have HL9 : Hid (LInv w w' w.heap.size (w.heap.size + 1)) := hid ⟨v', ve', L', hn', i'.pv, i'.pe, i'.on, i'.lv, i'.lw⟩
            clear hn' i' q0 q1 q2 q3 q4 q5 q6 q7 q8 q9
            go_wp2
            go_roundw
            case rel => exact ⟨j + 1, by omega, by go_num, HL9⟩
            case measure => simp [RowKit.intOf]; omega
          · by_cases h4 : kd = 4
            · subst h4
              clear h1 h2 h3
              go_wp2_with fail
              refine (does4 w wr w.heap.size (w.heap.size + 1) v ve L HV HE HON (Nat.le_refl _) (Nat.le_succ _) hlv hlw hn id pt nn a fr fp to tp Ad nd cd).mono ?_
              rintro x w' ⟨rfl, v', ve', L', hn', i'⟩
              have HL9 : Hid (LInv w w' w.heap.size (w.heap.size + 1)) := hid ⟨v', ve', L', hn', i'.pv, i'.pe, i'.on, i'.lv, i'.lw⟩
              clear hn' i' q0 q1 q2 q3 q4 q5 q6 q7 q8 q9
              go_wp2
              go_roundw
              case rel => exact ⟨j + 1, by omega, by go_num, HL9⟩
              case measure => simp [RowKit.intOf]; omega
            · have HK := hid (And.intro h1 (And.intro h2 (And.intro h3 h4)))
              clear h1 h2 h3 h4
              go_wp2_with fail
              refine (does5 w wr w.heap.size (w.heap.size + 1) v ve L HV HE HON (Nat.le_refl _) (Nat.le_succ _) hlv hlw hn kd id pt nn a fr fp to tp Ad nd cd HK.out).mono ?_
              rintro x w' ⟨rfl, v', ve', L', hn', i'⟩
              have HL9 : Hid (LInv w w' w.heap.size (w.heap.size + 1)) := hid ⟨v', ve', L', hn', i'.pv, i'.pe, i'.on, i'.lv, i'.lw⟩
              clear hn' i' q0 q1 q2 q3 q4 q5 q6 q7 q8 q9
              go_wp2
              go_roundw
              case rel => exact ⟨j + 1, by omega, by go_num, HL9⟩
              case measure => simp [RowKit.intOf]; omega
    · by_cases hlen : j < len
      · have hb : ¬ (j : Int) < 200 := by omega
        have hb2 : (j : Int) < len := by omega
        go_wp2_with fail
        refine (ev.known _).mono ?_
        rintro x w' ⟨rfl, o⟩
        have HQ := hid (HI.out.on.trans o); clear o
        go_wp2
        go_ret
        exact ⟨rfl, HQ.out⟩
      · have hb2 : ¬ (j : Int) < len := by omega
        go_wp2_with fail
        refine (ev.known _).mono ?_
        rintro x w' ⟨rfl, o⟩
        have HQ := hid (HI.out.on.trans o); clear o
        go_wp2
        go_ret
        exact ⟨rfl, HQ.out⟩
end Go.Proofs.Ytnhakcgkhhficaa.udp
