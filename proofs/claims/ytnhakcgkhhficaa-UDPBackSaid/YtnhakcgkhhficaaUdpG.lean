/-
  Chapter 11 (udp): what the document says of any bytes, by a walk of its text. Conditions: none but those typed.
-/
import Derived.Test.YtnhakcgkhhficaaUdpF
import Derived.Test.YtnhakcgkhhficaaCpy
namespace Go.Proofs.Ytnhakcgkhhficaa.udp
set_option linter.unusedVariables false
set_option linter.unusedSimpArgs false
open Go.ChangeShapes Go.WideShapes Go.ChangeAt Go.RowKit Go.IntWalk Go.Lib
theorem opStoreOb {P : Program} {o : Oper} {a : Act} {w : World} {K : Act → World → Prop} {Q : Exit → Act → World → Prop} (hgd : o.guard = none) (ty : TypeId) (x y : Operand) (ho : o.op = .store ty x y)
    (g : Nat) (vs : Array Value) (hx : a.eval x = .pointer (some ⟨g, 0, none⟩)) (hy : a.eval y = .agg vs) (cs : Array Value) (t : TypeId) (hb : Ob w g t cs)
    (hs : vs.size = cs.size) (hi : (P.info? ty).map (·.size) = some vs.size) (h1 : vs.all (·.oneCell') = true)
    (h : ∀ W, W = w.setCells g 0 vs.toList → K (a.put o.dst undef) W) : Oper.wp P o a w K Q :=
  wp_store_mid ty x y ho g 0 vs hx hy (hb.there hs) hi h1 (h _ rfl)
set_option maxRecDepth 100000 in
set_option maxHeartbeats 1000000 in
theorem rdec1 (w : World) (fr to : Int) (A : Option Addr) (n c : Nat) (l : List Int) (hl : Rd .u8 w A n l) (hc0 : A = none → c = 0) (hnc : n ≤ c) (hn : n ≤ 100000) :
    Calls Try.prog 25 #[.int .u32 fr, .int .u32 to, .slice A n c] w (DEnd w fr to l) := by
  have HLen := hid hl.len
  have HL := hid hl; clear hl
  have HC := hid hc0; clear hc0
  have OR : Hid (Ob (w.alloc (.cells #[.int .u32 0, .int .i64 0, .int .u32 0, .int .i64 0, .slice none 0 0] 32)) w.heap.size 32 #[.int .u32 0, .int .i64 0, .int .u32 0, .int .i64 0, .slice none 0 0]) := hid (Ob.new _ _ _)
  have QB : Hid (Only [] w (w.alloc (.cells #[.int .u32 0, .int .i64 0, .int .u32 0, .int .i64 0, .slice none 0 0] 32))) := hid ((Only.refl [] w).alloc _)
  by_cases h8 : n < 8
  · have HE : Hid (dE fr to l = 2) := hid (by unfold dE; rw [if_pos (by rw [HLen.out]; exact h8)])
    go_enter Try.func25, Try.ntmps25
    go_wp2_with (refine wp_storeOb rfl 32 _ _ rfl _ _ rfl rfl _ _ OR.out rfl (by kernel_rfl) (by simp [Value.oneCell']) (fun W9 hW9 => ?_); try simp only [Act.put, List.setIfInBounds_toArray, List.set_cons_zero, List.set_cons_succ]; have OR5 := hid (OR.out.eq_all hW9 rfl); have QB5 := hid (QB.out.eq_all hW9 (Or.inr (by simp))); clear hW9)
    have r0 := OR5.out.cell 0; have r1 := OR5.out.cell 1; have r2 := OR5.out.cell 2; have r3 := OR5.out.cell 3; have r4 := OR5.out.cell 4
    exact bodyPost_ret (v := .tuple #[.agg #[.int .u32 0, .int .i64 0, .int .u32 0, .int .i64 0, .slice none 0 0], .int .i64 2]) (by simp [results, Try.results25, go_sem, *]) rfl (DEnd.no HE.out (by decide) QB5.out)
  · obtain ⟨bb, off, rfl, hbb, _⟩ := HL.out.at_ (by omega)
    have HWF : Hid (∀ z ∈ l, 0 ≤ z ∧ z ≤ 255) := hid (fun z hz => u8Bd (HL.out.wf z hz))
    have b0 := get2_bd l 0 (by rw [HLen.out]; omega) HWF.out
    have b2 := get2_bd l 2 (by rw [HLen.out]; omega) HWF.out
    have b4 := get2_bd l 4 (by rw [HLen.out]; omega) HWF.out
    have b6 := get2_bd l 6 (by rw [HLen.out]; omega) HWF.out
    have HE : Hid (dE fr to l = if lenU l < 8 then 3 else if (l.length : Int) < lenU l then 2 else if badU fr to l = true then 4 else 0) := hid (by unfold dE; rw [if_neg (by rw [HLen.out]; exact h8)])
    have HLU : Hid (lenU l = ref.get2 l 4) := hid rfl
    have HBU : Hid (badU fr to l = ((ref.get2 l 6 != 0) && (oct.sumF (psd.psd fr to 17 (lenU l) ++ l.take (lenU l).toNat) != 0))) := hid rfl
    obtain ⟨p0, hp0⟩ : ∃ p, p = ref.get2 l 0 := ⟨_, rfl⟩
    obtain ⟨p2, hp2⟩ : ∃ p, p = ref.get2 l 2 := ⟨_, rfl⟩
    obtain ⟨m, hm⟩ : ∃ m : Nat, (m : Int) = ref.get2 l 4 := ⟨(ref.get2 l 4).toNat, by omega⟩
    obtain ⟨ck, hck⟩ : ∃ p, p = ref.get2 l 6 := ⟨_, rfl⟩
    rw [← hp0] at b0
    rw [← hp2] at b2
    rw [← hm] at b4 HLU
    rw [← hck] at b6 HBU
    have P0 := hid hp0; have P2 := hid hp2; have P4 := hid hm; have P6 := hid hck
    clear hp0 hp2 hm hck
    rw [HLU.out, Int.toNat_natCast] at HBU
    rw [HLU.out, HLen.out] at HE
    have h8' : ¬ (n : Int) < 8 := by omega
    generalize hW1 : w.alloc (.cells #[.int .u32 0, .int .i64 0, .int .u32 0, .int .i64 0, .slice none 0 0] 32) = W1 at *
    have HW1 := hid hW1; clear hW1
    go_enter Try.func25, Try.ntmps25
    go_wp2_with fail
    rw [HW1.out]
    refine (callsOnly (ref.get21 W1 (some ⟨bb, off, none⟩) n c l (HL.out.only_nil QB.out) 4 (by omega) (by omega))).mono ?_
    rw [← P4.out]
    rintro x w2 ⟨rfl, o2⟩
    have OR := hid (OR.out.only o2 (by simp)); have QB := hid (QB.out.trans o2); clear o2
    by_cases h4 : (m : Int) < 8
    · have HE2 : Hid (dE fr to l = 3) := hid (by rw [HE.out, if_pos h4])
      go_wp2_with (refine wp_storeOb rfl 32 _ _ rfl _ _ rfl rfl _ _ OR.out rfl (by kernel_rfl) (by simp [Value.oneCell']) (fun W9 hW9 => ?_); try simp only [Act.put, List.setIfInBounds_toArray, List.set_cons_zero, List.set_cons_succ]; have OR5 := hid (OR.out.eq_all hW9 rfl); have QB5 := hid (QB.out.eq_all hW9 (Or.inr (by simp))); clear hW9)
      have r0 := OR5.out.cell 0; have r1 := OR5.out.cell 1; have r2 := OR5.out.cell 2; have r3 := OR5.out.cell 3; have r4 := OR5.out.cell 4
      exact bodyPost_ret (v := .tuple #[.agg #[.int .u32 0, .int .i64 0, .int .u32 0, .int .i64 0, .slice none 0 0], .int .i64 3]) (by simp [results, Try.results25, go_sem, *]) rfl (DEnd.no HE2.out (by decide) QB5.out)
    · by_cases h5 : (n : Int) < m
      · have HE2 : Hid (dE fr to l = 2) := hid (by rw [HE.out, if_neg h4, if_pos h5])
        go_wp2_with (refine wp_storeOb rfl 32 _ _ rfl _ _ rfl rfl _ _ OR.out rfl (by kernel_rfl) (by simp [Value.oneCell']) (fun W9 hW9 => ?_); try simp only [Act.put, List.setIfInBounds_toArray, List.set_cons_zero, List.set_cons_succ]; have OR5 := hid (OR.out.eq_all hW9 rfl); have QB5 := hid (QB.out.eq_all hW9 (Or.inr (by simp))); clear hW9)
        have r0 := OR5.out.cell 0; have r1 := OR5.out.cell 1; have r2 := OR5.out.cell 2; have r3 := OR5.out.cell 3; have r4 := OR5.out.cell 4
        exact bodyPost_ret (v := .tuple #[.agg #[.int .u32 0, .int .i64 0, .int .u32 0, .int .i64 0, .slice none 0 0], .int .i64 2]) (by simp [results, Try.results25, go_sem, *]) rfl (DEnd.no HE2.out (by decide) QB5.out)
      · have hmn : m ≤ n := by omega
        have hmc : (m : Int) ≤ c := by omega
        have HE1 : Hid (dE fr to l = if badU fr to l = true then 4 else 0) := hid (by rw [HE.out, if_neg h4, if_neg h5])
        have HPD : Hid (∀ W : World, Rd .u8 W (some ⟨bb, off, none⟩) n l → Rd .u8 W (if c = 8 then some ⟨bb, off, none⟩ else some ⟨bb, off + 8, none⟩) (m - 8) ((l.drop 8).take (m - 8))) := hid (fun W h => by
          split
          · rw [show m - 8 = 0 from by omega]; exact Rd.nil _ _ _
          · exact (h.drop 8 (by omega)).take (m - 8) (by omega))
        go_wp2_with fail
        refine (callsOnly (ref.get21 _ (some ⟨bb, off, none⟩) n c l (HL.out.only_nil QB.out) 6 (by omega) (by omega))).mono ?_
        rw [← P6.out]
        rintro x w3 ⟨rfl, o2⟩
        have OR := hid (OR.out.only o2 (by simp)); have QB := hid (QB.out.trans o2); clear o2
        have hm9 : ¬ (m : Int) < 8 := by omega
        by_cases hc : ck = 0
        · have HE2 : Hid (dE fr to l = 0) := hid (by rw [HE1.out, if_neg (by rw [HBU.out, hc]; simp)])
          subst hc
          go_wp2_with fail
          refine wp_region_noPanic ?_
          refine rgn.regionT (R := AnyW) (by kernel_rfl) AnyW.refl (fun _ _ _ _ _ => AnyW.any _ _) (fun _ _ _ _ _ h => h) (.y 0 (.y 1 (.y 3 (.y 4 (.y 7 (.y 8 (.y 9 (.b 2 6 (.b 5 6 (.e 6 (.e 10 (.y 11 (.e 12 (.e 13 .z))))) (.e 5 (.e 10 (.y 11 (.e 12 (.e 13 .z)))))) (.e 2 (.e 5 (.e 10 (.y 11 (.e 12 (.e 13 .z)))))))))))))) (by kernel_rfl) (fun W hWd => ?_)
          have HWd := hid hWd; clear hWd
          have OR := hid (OR.out.eq_drew HWd.out); have QB := hid (QB.out.eq_drew HWd.out)
          refine rgn.Walk.ys (v := ?_) rfl rfl rfl ?_ ?_
          rotate_left 1
          · intro W' hW'
            go_simp
            try with_reducible rfl
          try simp only [Act.put, List.setIfInBounds_toArray, List.set_cons_zero, List.set_cons_succ]
          refine rgn.Walk.ys (v := ?_) rfl rfl rfl ?_ ?_
          rotate_left 1
          · intro W' hW'
            go_simp
            try with_reducible rfl
          try simp only [Act.put, List.setIfInBounds_toArray, List.set_cons_zero, List.set_cons_succ]
          refine rgn.Walk.ys (v := ?_) rfl rfl rfl ?_ ?_
          rotate_left 1
          · intro W' hW'
            go_simp
            try with_reducible rfl
          try simp only [Act.put, List.setIfInBounds_toArray, List.set_cons_zero, List.set_cons_succ]
          refine rgn.Walk.ys (v := ?_) rfl rfl rfl ?_ ?_
          rotate_left 1
          · intro W' hW'
            go_simp
            try with_reducible rfl
          try simp only [Act.put, List.setIfInBounds_toArray, List.set_cons_zero, List.set_cons_succ]
          refine rgn.Walk.ys (v := ?_) rfl rfl rfl ?_ ?_
          rotate_left 1
          · intro W' hW'
            go_simp
            try with_reducible rfl
          try simp only [Act.put, List.setIfInBounds_toArray, List.set_cons_zero, List.set_cons_succ]
          refine rgn.Walk.ys (v := ?_) rfl rfl rfl ?_ ?_
          rotate_left 1
          · intro W' hW'
            go_simp
            try with_reducible rfl
          try simp only [Act.put, List.setIfInBounds_toArray, List.set_cons_zero, List.set_cons_succ]
          refine rgn.Walk.ys (v := ?_) rfl rfl rfl ?_ ?_
          rotate_left 1
          · intro W' hW'
            go_simp
            try with_reducible rfl
          try simp only [Act.put, List.setIfInBounds_toArray, List.set_cons_zero, List.set_cons_succ]
          refine rgn.Walk.bs ?_ ?_
          · refine rgn.stepE rfl rfl (fun K hK => ?_)
            go_simp
            refine (callsOnly (ref.get21 _ (some ⟨bb, off, none⟩) n c l (HL.out.only_nil QB.out) 0 (by omega) (by omega))).mono ?_
            rw [← P0.out]
            rintro x w0g ⟨rfl, og⟩
            refine hK _ _ (AnyW.any _ _) ?_
            clear hK K
            try simp only [Act.put, List.setIfInBounds_toArray, List.set_cons_zero, List.set_cons_succ]
            have OR := hid (OR.out.only og (by simp)); have QB := hid (QB.out.trans og)
            clear og
            refine rgn.Walk.bs ?_ ?_
            · refine rgn.stepE rfl rfl (fun K hK => ?_)
              go_simp
              refine (callsOnly (ref.get21 _ (some ⟨bb, off, none⟩) n c l (HL.out.only_nil QB.out) 2 (by omega) (by omega))).mono ?_
              rw [← P2.out]
              rintro x w2g ⟨rfl, og⟩
              refine hK _ _ (AnyW.any _ _) ?_
              clear hK K
              try simp only [Act.put, List.setIfInBounds_toArray, List.set_cons_zero, List.set_cons_succ]
              have OR := hid (OR.out.only og (by simp)); have QB := hid (QB.out.trans og)
              clear og
              refine rgn.Walk.es ?_
              refine rgn.stepE rfl rfl (fun K hK => ?_)
              go_simp
              refine hK _ _ (AnyW.any _ _) ?_
              clear hK K
              try simp only [Act.put, List.setIfInBounds_toArray, List.set_cons_zero, List.set_cons_succ]
              have V0 : Hid (Own .u8 5 _ (w.heap.size + 1) _ []) := hid (Own.lit .u8 5 _ (w.heap.size + 1) [] #[] 0 rfl rfl OR.out.lt (by simp) (by simp)); have OR := hid (OR.out.alloc (.cells #[] 5)); have QB := hid (QB.out.alloc (.cells #[] 5))
              refine rgn.Walk.es ?_
              refine rgn.stepE rfl rfl (fun K hK => ?_)
              refine opApp rfl (.tmp 42) (.tmp 45) _ rfl hlp.elemB (w.heap.size + 1) _ [] rfl V0.out (if c = 8 then some ⟨bb, off, none⟩ else some ⟨bb, off + 8, none⟩) (m - 8) (c - 8) ((l.drop 8).take (m - 8)) (by go_simp <;> first | rfl | (congr 1 <;> omega)) (HPD.out _ (HL.out.only_nil QB.out)) (by intro hh; split at hh <;> cases hh) (by simp; omega) (by unfold maxLen; simp; omega) OR.out.lt ?_
              intro v1 w1 hv hg hb
              refine hK _ _ (AnyW.any _ _) ?_
              clear hK K
              try simp only [Act.put, List.setIfInBounds_toArray, List.set_cons_zero, List.set_cons_succ]
              have QB := hid (QB.out.of_grown hg (fun k hk => .inr (by have := (V0.out.lt k hk).1; omega))); have OR := hid (OR.out.grown hg (fun e => by have := (V0.out.lt _ e).1; omega)); have V1 : Hid (Own .u8 5 w1 (w.heap.size + 1) v1 ((l.drop 8).take (m - 8))) := hid hv; clear hv hg hb
              obtain ⟨A5, c5, ev5, _, _, _, _⟩ := V1.out.slice
              rw [List.length_take, List.length_drop, HLen.out, show min (m - 8) (n - 8) = m - 8 from by omega] at ev5
              subst ev5
              refine rgn.Walk.ys (v := ?_) rfl rfl rfl ?_ ?_
              rotate_left 1
              · intro W' hW'
                go_simp
                try with_reducible rfl
              try simp only [Act.put, List.setIfInBounds_toArray, List.set_cons_zero, List.set_cons_succ]
              refine rgn.Walk.es ?_
              refine rgn.stepE rfl rfl (fun K hK => ?_)
              refine opStoreOb rfl 32 _ _ rfl w.heap.size #[.int .u32 fr, .int .i64 p0, .int .u32 to, .int .i64 p2, .slice A5 (m - 8) c5] rfl rfl _ _ OR.out rfl (by kernel_rfl) (by simp [Value.oneCell']) (fun W9 hW9 => ?_)
              refine hK _ _ (AnyW.any _ _) ?_
              clear hK K
              try simp only [Act.put, List.setIfInBounds_toArray, List.set_cons_zero, List.set_cons_succ]
              have OR5 := hid (OR.out.eq_all hW9 rfl); have QB5 := hid (QB.out.eq_all hW9 (Or.inr (by simp))); have QV5 : Hid (Only [w.heap.size] _ W9) := hid ((Only.refl _ _).eq_all hW9 (Or.inl (by simp))); clear hW9
              refine rgn.Walk.es ?_
              refine rgn.stepE rfl rfl (fun K hK => ?_)
              go_simp
              refine hK _ _ (AnyW.refl _) ?_
              clear hK K
              try simp only [Act.put, List.setIfInBounds_toArray, List.set_cons_zero, List.set_cons_succ]
              refine rgn.Walk.zs (NoPanic.normal ?_)
              have HV5 := hid (V1.out.only QV5.out (fun i hi => by have h9 := (V1.out.lt i hi).1; simp; omega))
              have r0 := OR5.out.cell 0; have r1 := OR5.out.cell 1; have r2 := OR5.out.cell 2; have r3 := OR5.out.cell 3; have r4 := OR5.out.cell 4
              go_wp2
              all_goals exact bodyPost_ret (v := .tuple #[.agg #[.int .u32 fr, .int .i64 p0, .int .u32 to, .int .i64 p2, .slice A5 (m - 8) c5], .int .i64 0]) (by simp [results, Try.results25, go_sem, *]) rfl (DEnd.yes HE2.out P0.out P2.out (by have h9 := HV5.out.mono_base (show w.heap.size ≤ w.heap.size + 1 by omega); rw [show (lenU l).toNat = m from by rw [HLU.out, Int.toNat_natCast]]; exact h9) QB5.out)
            · refine rgn.stepE rfl rfl (fun K hK => ?_)
              go_simp
              refine hK _ _ (AnyW.any _ _) ?_
              clear hK K
              try simp only [Act.put, List.setIfInBounds_toArray, List.set_cons_zero, List.set_cons_succ]
              have V0 : Hid (Own .u8 5 _ (w.heap.size + 1) _ []) := hid (Own.lit .u8 5 _ (w.heap.size + 1) [] #[] 0 rfl rfl OR.out.lt (by simp) (by simp)); have OR := hid (OR.out.alloc (.cells #[] 5)); have QB := hid (QB.out.alloc (.cells #[] 5))
              refine rgn.Walk.es ?_
              refine rgn.stepE rfl rfl (fun K hK => ?_)
              go_simp
              refine (callsOnly (ref.get21 _ (some ⟨bb, off, none⟩) n c l (HL.out.only_nil QB.out) 2 (by omega) (by omega))).mono ?_
              rw [← P2.out]
              rintro x w2g ⟨rfl, og⟩
              refine hK _ _ (AnyW.any _ _) ?_
              clear hK K
              try simp only [Act.put, List.setIfInBounds_toArray, List.set_cons_zero, List.set_cons_succ]
              have OR := hid (OR.out.only og (by simp)); have QB := hid (QB.out.trans og); have V0 := hid (V0.out.only_nil og)
              clear og
              refine rgn.Walk.es ?_
              refine rgn.stepE rfl rfl (fun K hK => ?_)
              refine opApp rfl (.tmp 42) (.tmp 45) _ rfl hlp.elemB (w.heap.size + 1) _ [] rfl V0.out (if c = 8 then some ⟨bb, off, none⟩ else some ⟨bb, off + 8, none⟩) (m - 8) (c - 8) ((l.drop 8).take (m - 8)) (by go_simp <;> first | rfl | (congr 1 <;> omega)) (HPD.out _ (HL.out.only_nil QB.out)) (by intro hh; split at hh <;> cases hh) (by simp; omega) (by unfold maxLen; simp; omega) OR.out.lt ?_
              intro v1 w1 hv hg hb
              refine hK _ _ (AnyW.any _ _) ?_
              clear hK K
              try simp only [Act.put, List.setIfInBounds_toArray, List.set_cons_zero, List.set_cons_succ]
              have QB := hid (QB.out.of_grown hg (fun k hk => .inr (by have := (V0.out.lt k hk).1; omega))); have OR := hid (OR.out.grown hg (fun e => by have := (V0.out.lt _ e).1; omega)); have V1 : Hid (Own .u8 5 w1 (w.heap.size + 1) v1 ((l.drop 8).take (m - 8))) := hid hv; clear hv hg hb
              obtain ⟨A5, c5, ev5, _, _, _, _⟩ := V1.out.slice
              rw [List.length_take, List.length_drop, HLen.out, show min (m - 8) (n - 8) = m - 8 from by omega] at ev5
              subst ev5
              refine rgn.Walk.ys (v := ?_) rfl rfl rfl ?_ ?_
              rotate_left 1
              · intro W' hW'
                go_simp
                try with_reducible rfl
              try simp only [Act.put, List.setIfInBounds_toArray, List.set_cons_zero, List.set_cons_succ]
              refine rgn.Walk.es ?_
              refine rgn.stepE rfl rfl (fun K hK => ?_)
              refine opStoreOb rfl 32 _ _ rfl w.heap.size #[.int .u32 fr, .int .i64 p0, .int .u32 to, .int .i64 p2, .slice A5 (m - 8) c5] rfl rfl _ _ OR.out rfl (by kernel_rfl) (by simp [Value.oneCell']) (fun W9 hW9 => ?_)
              refine hK _ _ (AnyW.any _ _) ?_
              clear hK K
              try simp only [Act.put, List.setIfInBounds_toArray, List.set_cons_zero, List.set_cons_succ]
              have OR5 := hid (OR.out.eq_all hW9 rfl); have QB5 := hid (QB.out.eq_all hW9 (Or.inr (by simp))); have QV5 : Hid (Only [w.heap.size] _ W9) := hid ((Only.refl _ _).eq_all hW9 (Or.inl (by simp))); clear hW9
              refine rgn.Walk.es ?_
              refine rgn.stepE rfl rfl (fun K hK => ?_)
              go_simp
              refine hK _ _ (AnyW.refl _) ?_
              clear hK K
              try simp only [Act.put, List.setIfInBounds_toArray, List.set_cons_zero, List.set_cons_succ]
              refine rgn.Walk.zs (NoPanic.normal ?_)
              have HV5 := hid (V1.out.only QV5.out (fun i hi => by have h9 := (V1.out.lt i hi).1; simp; omega))
              have r0 := OR5.out.cell 0; have r1 := OR5.out.cell 1; have r2 := OR5.out.cell 2; have r3 := OR5.out.cell 3; have r4 := OR5.out.cell 4
              go_wp2
              all_goals exact bodyPost_ret (v := .tuple #[.agg #[.int .u32 fr, .int .i64 p0, .int .u32 to, .int .i64 p2, .slice A5 (m - 8) c5], .int .i64 0]) (by simp [results, Try.results25, go_sem, *]) rfl (DEnd.yes HE2.out P0.out P2.out (by have h9 := HV5.out.mono_base (show w.heap.size ≤ w.heap.size + 1 by omega); rw [show (lenU l).toNat = m from by rw [HLU.out, Int.toNat_natCast]]; exact h9) QB5.out)
          · refine rgn.stepE rfl rfl (fun K hK => ?_)
            go_simp
            refine hK _ _ (AnyW.any _ _) ?_
            clear hK K
            try simp only [Act.put, List.setIfInBounds_toArray, List.set_cons_zero, List.set_cons_succ]
            have V0 : Hid (Own .u8 5 _ (w.heap.size + 1) _ []) := hid (Own.lit .u8 5 _ (w.heap.size + 1) [] #[] 0 rfl rfl OR.out.lt (by simp) (by simp)); have OR := hid (OR.out.alloc (.cells #[] 5)); have QB := hid (QB.out.alloc (.cells #[] 5))
            refine rgn.Walk.es ?_
            refine rgn.stepE rfl rfl (fun K hK => ?_)
            go_simp
            refine (callsOnly (ref.get21 _ (some ⟨bb, off, none⟩) n c l (HL.out.only_nil QB.out) 0 (by omega) (by omega))).mono ?_
            rw [← P0.out]
            rintro x w0g ⟨rfl, og⟩
            refine hK _ _ (AnyW.any _ _) ?_
            clear hK K
            try simp only [Act.put, List.setIfInBounds_toArray, List.set_cons_zero, List.set_cons_succ]
            have OR := hid (OR.out.only og (by simp)); have QB := hid (QB.out.trans og); have V0 := hid (V0.out.only_nil og)
            clear og
            refine rgn.Walk.es ?_
            refine rgn.stepE rfl rfl (fun K hK => ?_)
            go_simp
            refine (callsOnly (ref.get21 _ (some ⟨bb, off, none⟩) n c l (HL.out.only_nil QB.out) 2 (by omega) (by omega))).mono ?_
            rw [← P2.out]
            rintro x w2g ⟨rfl, og⟩
            refine hK _ _ (AnyW.any _ _) ?_
            clear hK K
            try simp only [Act.put, List.setIfInBounds_toArray, List.set_cons_zero, List.set_cons_succ]
            have OR := hid (OR.out.only og (by simp)); have QB := hid (QB.out.trans og); have V0 := hid (V0.out.only_nil og)
            clear og
            refine rgn.Walk.es ?_
            refine rgn.stepE rfl rfl (fun K hK => ?_)
            refine opApp rfl (.tmp 42) (.tmp 45) _ rfl hlp.elemB (w.heap.size + 1) _ [] rfl V0.out (if c = 8 then some ⟨bb, off, none⟩ else some ⟨bb, off + 8, none⟩) (m - 8) (c - 8) ((l.drop 8).take (m - 8)) (by go_simp <;> first | rfl | (congr 1 <;> omega)) (HPD.out _ (HL.out.only_nil QB.out)) (by intro hh; split at hh <;> cases hh) (by simp; omega) (by unfold maxLen; simp; omega) OR.out.lt ?_
            intro v1 w1 hv hg hb
            refine hK _ _ (AnyW.any _ _) ?_
            clear hK K
            try simp only [Act.put, List.setIfInBounds_toArray, List.set_cons_zero, List.set_cons_succ]
            have QB := hid (QB.out.of_grown hg (fun k hk => .inr (by have := (V0.out.lt k hk).1; omega))); have OR := hid (OR.out.grown hg (fun e => by have := (V0.out.lt _ e).1; omega)); have V1 : Hid (Own .u8 5 w1 (w.heap.size + 1) v1 ((l.drop 8).take (m - 8))) := hid hv; clear hv hg hb
            obtain ⟨A5, c5, ev5, _, _, _, _⟩ := V1.out.slice
            rw [List.length_take, List.length_drop, HLen.out, show min (m - 8) (n - 8) = m - 8 from by omega] at ev5
            subst ev5
            refine rgn.Walk.ys (v := ?_) rfl rfl rfl ?_ ?_
            rotate_left 1
            · intro W' hW'
              go_simp
              try with_reducible rfl
            try simp only [Act.put, List.setIfInBounds_toArray, List.set_cons_zero, List.set_cons_succ]
            refine rgn.Walk.es ?_
            refine rgn.stepE rfl rfl (fun K hK => ?_)
            refine opStoreOb rfl 32 _ _ rfl w.heap.size #[.int .u32 fr, .int .i64 p0, .int .u32 to, .int .i64 p2, .slice A5 (m - 8) c5] rfl rfl _ _ OR.out rfl (by kernel_rfl) (by simp [Value.oneCell']) (fun W9 hW9 => ?_)
            refine hK _ _ (AnyW.any _ _) ?_
            clear hK K
            try simp only [Act.put, List.setIfInBounds_toArray, List.set_cons_zero, List.set_cons_succ]
            have OR5 := hid (OR.out.eq_all hW9 rfl); have QB5 := hid (QB.out.eq_all hW9 (Or.inr (by simp))); have QV5 : Hid (Only [w.heap.size] _ W9) := hid ((Only.refl _ _).eq_all hW9 (Or.inl (by simp))); clear hW9
            refine rgn.Walk.es ?_
            refine rgn.stepE rfl rfl (fun K hK => ?_)
            go_simp
            refine hK _ _ (AnyW.refl _) ?_
            clear hK K
            try simp only [Act.put, List.setIfInBounds_toArray, List.set_cons_zero, List.set_cons_succ]
            refine rgn.Walk.zs (NoPanic.normal ?_)
            have HV5 := hid (V1.out.only QV5.out (fun i hi => by have h9 := (V1.out.lt i hi).1; simp; omega))
            have r0 := OR5.out.cell 0; have r1 := OR5.out.cell 1; have r2 := OR5.out.cell 2; have r3 := OR5.out.cell 3; have r4 := OR5.out.cell 4
            go_wp2
            all_goals exact bodyPost_ret (v := .tuple #[.agg #[.int .u32 fr, .int .i64 p0, .int .u32 to, .int .i64 p2, .slice A5 (m - 8) c5], .int .i64 0]) (by simp [results, Try.results25, go_sem, *]) rfl (DEnd.yes HE2.out P0.out P2.out (by have h9 := HV5.out.mono_base (show w.heap.size ≤ w.heap.size + 1 by omega); rw [show (lenU l).toNat = m from by rw [HLU.out, Int.toNat_natCast]]; exact h9) QB5.out)
        · have hc1 : (ck == 0) = false := by simpa using hc
          have hc2 : (ck != 0) = true := by simpa using hc
          go_wp2_with fail
          refine (psd.summed1 _ fr to 17 _ m c (l.take m) ((HL.out.only_nil QB.out).take m hmn) (by omega) (by omega)).mono ?_
          rintro x w8 ⟨rfl, o8⟩
          have OR := hid (OR.out.only o8 (by simp)); have QB := hid (QB.out.trans o8)
          clear o8
          obtain ⟨sm, hsm⟩ : ∃ sm, oct.sumF (psd.psd fr to 17 m ++ l.take m) = sm := ⟨_, rfl⟩
          rw [hsm] at HBU
          rw [hsm]
          clear hsm
          by_cases hs : sm = 0
          · have HE2 : Hid (dE fr to l = 0) := hid (by rw [HE1.out, if_neg (by rw [HBU.out, hs]; simp)])
            subst hs
            go_wp2_with fail
            refine wp_region_noPanic ?_
            refine rgn.regionT (R := AnyW) (by kernel_rfl) AnyW.refl (fun _ _ _ _ _ => AnyW.any _ _) (fun _ _ _ _ _ h => h) (.y 0 (.y 1 (.y 3 (.y 4 (.y 7 (.y 8 (.y 9 (.b 2 6 (.b 5 6 (.e 6 (.e 10 (.y 11 (.e 12 (.e 13 .z))))) (.e 5 (.e 10 (.y 11 (.e 12 (.e 13 .z)))))) (.e 2 (.e 5 (.e 10 (.y 11 (.e 12 (.e 13 .z)))))))))))))) (by kernel_rfl) (fun W hWd => ?_)
            have HWd := hid hWd; clear hWd
            have OR := hid (OR.out.eq_drew HWd.out); have QB := hid (QB.out.eq_drew HWd.out)
            refine rgn.Walk.ys (v := ?_) rfl rfl rfl ?_ ?_
            rotate_left 1
            · intro W' hW'
              go_simp
              try with_reducible rfl
            try simp only [Act.put, List.setIfInBounds_toArray, List.set_cons_zero, List.set_cons_succ]
            refine rgn.Walk.ys (v := ?_) rfl rfl rfl ?_ ?_
            rotate_left 1
            · intro W' hW'
              go_simp
              try with_reducible rfl
            try simp only [Act.put, List.setIfInBounds_toArray, List.set_cons_zero, List.set_cons_succ]
            refine rgn.Walk.ys (v := ?_) rfl rfl rfl ?_ ?_
            rotate_left 1
            · intro W' hW'
              go_simp
              try with_reducible rfl
            try simp only [Act.put, List.setIfInBounds_toArray, List.set_cons_zero, List.set_cons_succ]
            refine rgn.Walk.ys (v := ?_) rfl rfl rfl ?_ ?_
            rotate_left 1
            · intro W' hW'
              go_simp
              try with_reducible rfl
            try simp only [Act.put, List.setIfInBounds_toArray, List.set_cons_zero, List.set_cons_succ]
            refine rgn.Walk.ys (v := ?_) rfl rfl rfl ?_ ?_
            rotate_left 1
            · intro W' hW'
              go_simp
              try with_reducible rfl
            try simp only [Act.put, List.setIfInBounds_toArray, List.set_cons_zero, List.set_cons_succ]
            refine rgn.Walk.ys (v := ?_) rfl rfl rfl ?_ ?_
            rotate_left 1
            · intro W' hW'
              go_simp
              try with_reducible rfl
            try simp only [Act.put, List.setIfInBounds_toArray, List.set_cons_zero, List.set_cons_succ]
            refine rgn.Walk.ys (v := ?_) rfl rfl rfl ?_ ?_
            rotate_left 1
            · intro W' hW'
              go_simp
              try with_reducible rfl
            try simp only [Act.put, List.setIfInBounds_toArray, List.set_cons_zero, List.set_cons_succ]
            refine rgn.Walk.bs ?_ ?_
            · refine rgn.stepE rfl rfl (fun K hK => ?_)
              go_simp
              refine (callsOnly (ref.get21 _ (some ⟨bb, off, none⟩) n c l (HL.out.only_nil QB.out) 0 (by omega) (by omega))).mono ?_
              rw [← P0.out]
              rintro x w0g ⟨rfl, og⟩
              refine hK _ _ (AnyW.any _ _) ?_
              clear hK K
              try simp only [Act.put, List.setIfInBounds_toArray, List.set_cons_zero, List.set_cons_succ]
              have OR := hid (OR.out.only og (by simp)); have QB := hid (QB.out.trans og)
              clear og
              refine rgn.Walk.bs ?_ ?_
              · refine rgn.stepE rfl rfl (fun K hK => ?_)
                go_simp
                refine (callsOnly (ref.get21 _ (some ⟨bb, off, none⟩) n c l (HL.out.only_nil QB.out) 2 (by omega) (by omega))).mono ?_
                rw [← P2.out]
                rintro x w2g ⟨rfl, og⟩
                refine hK _ _ (AnyW.any _ _) ?_
                clear hK K
                try simp only [Act.put, List.setIfInBounds_toArray, List.set_cons_zero, List.set_cons_succ]
                have OR := hid (OR.out.only og (by simp)); have QB := hid (QB.out.trans og)
                clear og
                refine rgn.Walk.es ?_
                refine rgn.stepE rfl rfl (fun K hK => ?_)
                go_simp
                refine hK _ _ (AnyW.any _ _) ?_
                clear hK K
                try simp only [Act.put, List.setIfInBounds_toArray, List.set_cons_zero, List.set_cons_succ]
                have V0 : Hid (Own .u8 5 _ (w.heap.size + 1) _ []) := hid (Own.lit .u8 5 _ (w.heap.size + 1) [] #[] 0 rfl rfl OR.out.lt (by simp) (by simp)); have OR := hid (OR.out.alloc (.cells #[] 5)); have QB := hid (QB.out.alloc (.cells #[] 5))
                refine rgn.Walk.es ?_
                refine rgn.stepE rfl rfl (fun K hK => ?_)
                refine opApp rfl (.tmp 42) (.tmp 45) _ rfl hlp.elemB (w.heap.size + 1) _ [] rfl V0.out (if c = 8 then some ⟨bb, off, none⟩ else some ⟨bb, off + 8, none⟩) (m - 8) (c - 8) ((l.drop 8).take (m - 8)) (by go_simp <;> first | rfl | (congr 1 <;> omega)) (HPD.out _ (HL.out.only_nil QB.out)) (by intro hh; split at hh <;> cases hh) (by simp; omega) (by unfold maxLen; simp; omega) OR.out.lt ?_
                intro v1 w1 hv hg hb
                refine hK _ _ (AnyW.any _ _) ?_
                clear hK K
                try simp only [Act.put, List.setIfInBounds_toArray, List.set_cons_zero, List.set_cons_succ]
                have QB := hid (QB.out.of_grown hg (fun k hk => .inr (by have := (V0.out.lt k hk).1; omega))); have OR := hid (OR.out.grown hg (fun e => by have := (V0.out.lt _ e).1; omega)); have V1 : Hid (Own .u8 5 w1 (w.heap.size + 1) v1 ((l.drop 8).take (m - 8))) := hid hv; clear hv hg hb
                obtain ⟨A5, c5, ev5, _, _, _, _⟩ := V1.out.slice
                rw [List.length_take, List.length_drop, HLen.out, show min (m - 8) (n - 8) = m - 8 from by omega] at ev5
                subst ev5
                refine rgn.Walk.ys (v := ?_) rfl rfl rfl ?_ ?_
                rotate_left 1
                · intro W' hW'
                  go_simp
                  try with_reducible rfl
                try simp only [Act.put, List.setIfInBounds_toArray, List.set_cons_zero, List.set_cons_succ]
                refine rgn.Walk.es ?_
                refine rgn.stepE rfl rfl (fun K hK => ?_)
                refine opStoreOb rfl 32 _ _ rfl w.heap.size #[.int .u32 fr, .int .i64 p0, .int .u32 to, .int .i64 p2, .slice A5 (m - 8) c5] rfl rfl _ _ OR.out rfl (by kernel_rfl) (by simp [Value.oneCell']) (fun W9 hW9 => ?_)
                refine hK _ _ (AnyW.any _ _) ?_
                clear hK K
                try simp only [Act.put, List.setIfInBounds_toArray, List.set_cons_zero, List.set_cons_succ]
                have OR5 := hid (OR.out.eq_all hW9 rfl); have QB5 := hid (QB.out.eq_all hW9 (Or.inr (by simp))); have QV5 : Hid (Only [w.heap.size] _ W9) := hid ((Only.refl _ _).eq_all hW9 (Or.inl (by simp))); clear hW9
                refine rgn.Walk.es ?_
                refine rgn.stepE rfl rfl (fun K hK => ?_)
                go_simp
                refine hK _ _ (AnyW.refl _) ?_
                clear hK K
                try simp only [Act.put, List.setIfInBounds_toArray, List.set_cons_zero, List.set_cons_succ]
                refine rgn.Walk.zs (NoPanic.normal ?_)
                have HV5 := hid (V1.out.only QV5.out (fun i hi => by have h9 := (V1.out.lt i hi).1; simp; omega))
                have r0 := OR5.out.cell 0; have r1 := OR5.out.cell 1; have r2 := OR5.out.cell 2; have r3 := OR5.out.cell 3; have r4 := OR5.out.cell 4
                go_wp2
                all_goals exact bodyPost_ret (v := .tuple #[.agg #[.int .u32 fr, .int .i64 p0, .int .u32 to, .int .i64 p2, .slice A5 (m - 8) c5], .int .i64 0]) (by simp [results, Try.results25, go_sem, *]) rfl (DEnd.yes HE2.out P0.out P2.out (by have h9 := HV5.out.mono_base (show w.heap.size ≤ w.heap.size + 1 by omega); rw [show (lenU l).toNat = m from by rw [HLU.out, Int.toNat_natCast]]; exact h9) QB5.out)
              · refine rgn.stepE rfl rfl (fun K hK => ?_)
                go_simp
                refine hK _ _ (AnyW.any _ _) ?_
                clear hK K
                try simp only [Act.put, List.setIfInBounds_toArray, List.set_cons_zero, List.set_cons_succ]
                have V0 : Hid (Own .u8 5 _ (w.heap.size + 1) _ []) := hid (Own.lit .u8 5 _ (w.heap.size + 1) [] #[] 0 rfl rfl OR.out.lt (by simp) (by simp)); have OR := hid (OR.out.alloc (.cells #[] 5)); have QB := hid (QB.out.alloc (.cells #[] 5))
                refine rgn.Walk.es ?_
                refine rgn.stepE rfl rfl (fun K hK => ?_)
                go_simp
                refine (callsOnly (ref.get21 _ (some ⟨bb, off, none⟩) n c l (HL.out.only_nil QB.out) 2 (by omega) (by omega))).mono ?_
                rw [← P2.out]
                rintro x w2g ⟨rfl, og⟩
                refine hK _ _ (AnyW.any _ _) ?_
                clear hK K
                try simp only [Act.put, List.setIfInBounds_toArray, List.set_cons_zero, List.set_cons_succ]
                have OR := hid (OR.out.only og (by simp)); have QB := hid (QB.out.trans og); have V0 := hid (V0.out.only_nil og)
                clear og
                refine rgn.Walk.es ?_
                refine rgn.stepE rfl rfl (fun K hK => ?_)
                refine opApp rfl (.tmp 42) (.tmp 45) _ rfl hlp.elemB (w.heap.size + 1) _ [] rfl V0.out (if c = 8 then some ⟨bb, off, none⟩ else some ⟨bb, off + 8, none⟩) (m - 8) (c - 8) ((l.drop 8).take (m - 8)) (by go_simp <;> first | rfl | (congr 1 <;> omega)) (HPD.out _ (HL.out.only_nil QB.out)) (by intro hh; split at hh <;> cases hh) (by simp; omega) (by unfold maxLen; simp; omega) OR.out.lt ?_
                intro v1 w1 hv hg hb
                refine hK _ _ (AnyW.any _ _) ?_
                clear hK K
                try simp only [Act.put, List.setIfInBounds_toArray, List.set_cons_zero, List.set_cons_succ]
                have QB := hid (QB.out.of_grown hg (fun k hk => .inr (by have := (V0.out.lt k hk).1; omega))); have OR := hid (OR.out.grown hg (fun e => by have := (V0.out.lt _ e).1; omega)); have V1 : Hid (Own .u8 5 w1 (w.heap.size + 1) v1 ((l.drop 8).take (m - 8))) := hid hv; clear hv hg hb
                obtain ⟨A5, c5, ev5, _, _, _, _⟩ := V1.out.slice
                rw [List.length_take, List.length_drop, HLen.out, show min (m - 8) (n - 8) = m - 8 from by omega] at ev5
                subst ev5
                refine rgn.Walk.ys (v := ?_) rfl rfl rfl ?_ ?_
                rotate_left 1
                · intro W' hW'
                  go_simp
                  try with_reducible rfl
                try simp only [Act.put, List.setIfInBounds_toArray, List.set_cons_zero, List.set_cons_succ]
                refine rgn.Walk.es ?_
                refine rgn.stepE rfl rfl (fun K hK => ?_)
                refine opStoreOb rfl 32 _ _ rfl w.heap.size #[.int .u32 fr, .int .i64 p0, .int .u32 to, .int .i64 p2, .slice A5 (m - 8) c5] rfl rfl _ _ OR.out rfl (by kernel_rfl) (by simp [Value.oneCell']) (fun W9 hW9 => ?_)
                refine hK _ _ (AnyW.any _ _) ?_
                clear hK K
                try simp only [Act.put, List.setIfInBounds_toArray, List.set_cons_zero, List.set_cons_succ]
                have OR5 := hid (OR.out.eq_all hW9 rfl); have QB5 := hid (QB.out.eq_all hW9 (Or.inr (by simp))); have QV5 : Hid (Only [w.heap.size] _ W9) := hid ((Only.refl _ _).eq_all hW9 (Or.inl (by simp))); clear hW9
                refine rgn.Walk.es ?_
                refine rgn.stepE rfl rfl (fun K hK => ?_)
                go_simp
                refine hK _ _ (AnyW.refl _) ?_
                clear hK K
                try simp only [Act.put, List.setIfInBounds_toArray, List.set_cons_zero, List.set_cons_succ]
                refine rgn.Walk.zs (NoPanic.normal ?_)
                have HV5 := hid (V1.out.only QV5.out (fun i hi => by have h9 := (V1.out.lt i hi).1; simp; omega))
                have r0 := OR5.out.cell 0; have r1 := OR5.out.cell 1; have r2 := OR5.out.cell 2; have r3 := OR5.out.cell 3; have r4 := OR5.out.cell 4
                go_wp2
                all_goals exact bodyPost_ret (v := .tuple #[.agg #[.int .u32 fr, .int .i64 p0, .int .u32 to, .int .i64 p2, .slice A5 (m - 8) c5], .int .i64 0]) (by simp [results, Try.results25, go_sem, *]) rfl (DEnd.yes HE2.out P0.out P2.out (by have h9 := HV5.out.mono_base (show w.heap.size ≤ w.heap.size + 1 by omega); rw [show (lenU l).toNat = m from by rw [HLU.out, Int.toNat_natCast]]; exact h9) QB5.out)
            · refine rgn.stepE rfl rfl (fun K hK => ?_)
              go_simp
              refine hK _ _ (AnyW.any _ _) ?_
              clear hK K
              try simp only [Act.put, List.setIfInBounds_toArray, List.set_cons_zero, List.set_cons_succ]
              have V0 : Hid (Own .u8 5 _ (w.heap.size + 1) _ []) := hid (Own.lit .u8 5 _ (w.heap.size + 1) [] #[] 0 rfl rfl OR.out.lt (by simp) (by simp)); have OR := hid (OR.out.alloc (.cells #[] 5)); have QB := hid (QB.out.alloc (.cells #[] 5))
              refine rgn.Walk.es ?_
              refine rgn.stepE rfl rfl (fun K hK => ?_)
              go_simp
              refine (callsOnly (ref.get21 _ (some ⟨bb, off, none⟩) n c l (HL.out.only_nil QB.out) 0 (by omega) (by omega))).mono ?_
              rw [← P0.out]
              rintro x w0g ⟨rfl, og⟩
              refine hK _ _ (AnyW.any _ _) ?_
              clear hK K
              try simp only [Act.put, List.setIfInBounds_toArray, List.set_cons_zero, List.set_cons_succ]
              have OR := hid (OR.out.only og (by simp)); have QB := hid (QB.out.trans og); have V0 := hid (V0.out.only_nil og)
              clear og
              refine rgn.Walk.es ?_
              refine rgn.stepE rfl rfl (fun K hK => ?_)
              go_simp
              refine (callsOnly (ref.get21 _ (some ⟨bb, off, none⟩) n c l (HL.out.only_nil QB.out) 2 (by omega) (by omega))).mono ?_
              rw [← P2.out]
              rintro x w2g ⟨rfl, og⟩
              refine hK _ _ (AnyW.any _ _) ?_
              clear hK K
              try simp only [Act.put, List.setIfInBounds_toArray, List.set_cons_zero, List.set_cons_succ]
              have OR := hid (OR.out.only og (by simp)); have QB := hid (QB.out.trans og); have V0 := hid (V0.out.only_nil og)
              clear og
              refine rgn.Walk.es ?_
              refine rgn.stepE rfl rfl (fun K hK => ?_)
              refine opApp rfl (.tmp 42) (.tmp 45) _ rfl hlp.elemB (w.heap.size + 1) _ [] rfl V0.out (if c = 8 then some ⟨bb, off, none⟩ else some ⟨bb, off + 8, none⟩) (m - 8) (c - 8) ((l.drop 8).take (m - 8)) (by go_simp <;> first | rfl | (congr 1 <;> omega)) (HPD.out _ (HL.out.only_nil QB.out)) (by intro hh; split at hh <;> cases hh) (by simp; omega) (by unfold maxLen; simp; omega) OR.out.lt ?_
              intro v1 w1 hv hg hb
              refine hK _ _ (AnyW.any _ _) ?_
              clear hK K
              try simp only [Act.put, List.setIfInBounds_toArray, List.set_cons_zero, List.set_cons_succ]
              have QB := hid (QB.out.of_grown hg (fun k hk => .inr (by have := (V0.out.lt k hk).1; omega))); have OR := hid (OR.out.grown hg (fun e => by have := (V0.out.lt _ e).1; omega)); have V1 : Hid (Own .u8 5 w1 (w.heap.size + 1) v1 ((l.drop 8).take (m - 8))) := hid hv; clear hv hg hb
              obtain ⟨A5, c5, ev5, _, _, _, _⟩ := V1.out.slice
              rw [List.length_take, List.length_drop, HLen.out, show min (m - 8) (n - 8) = m - 8 from by omega] at ev5
              subst ev5
              refine rgn.Walk.ys (v := ?_) rfl rfl rfl ?_ ?_
              rotate_left 1
              · intro W' hW'
                go_simp
                try with_reducible rfl
              try simp only [Act.put, List.setIfInBounds_toArray, List.set_cons_zero, List.set_cons_succ]
              refine rgn.Walk.es ?_
              refine rgn.stepE rfl rfl (fun K hK => ?_)
              refine opStoreOb rfl 32 _ _ rfl w.heap.size #[.int .u32 fr, .int .i64 p0, .int .u32 to, .int .i64 p2, .slice A5 (m - 8) c5] rfl rfl _ _ OR.out rfl (by kernel_rfl) (by simp [Value.oneCell']) (fun W9 hW9 => ?_)
              refine hK _ _ (AnyW.any _ _) ?_
              clear hK K
              try simp only [Act.put, List.setIfInBounds_toArray, List.set_cons_zero, List.set_cons_succ]
              have OR5 := hid (OR.out.eq_all hW9 rfl); have QB5 := hid (QB.out.eq_all hW9 (Or.inr (by simp))); have QV5 : Hid (Only [w.heap.size] _ W9) := hid ((Only.refl _ _).eq_all hW9 (Or.inl (by simp))); clear hW9
              refine rgn.Walk.es ?_
              refine rgn.stepE rfl rfl (fun K hK => ?_)
              go_simp
              refine hK _ _ (AnyW.refl _) ?_
              clear hK K
              try simp only [Act.put, List.setIfInBounds_toArray, List.set_cons_zero, List.set_cons_succ]
              refine rgn.Walk.zs (NoPanic.normal ?_)
              have HV5 := hid (V1.out.only QV5.out (fun i hi => by have h9 := (V1.out.lt i hi).1; simp; omega))
              have r0 := OR5.out.cell 0; have r1 := OR5.out.cell 1; have r2 := OR5.out.cell 2; have r3 := OR5.out.cell 3; have r4 := OR5.out.cell 4
              go_wp2
              all_goals exact bodyPost_ret (v := .tuple #[.agg #[.int .u32 fr, .int .i64 p0, .int .u32 to, .int .i64 p2, .slice A5 (m - 8) c5], .int .i64 0]) (by simp [results, Try.results25, go_sem, *]) rfl (DEnd.yes HE2.out P0.out P2.out (by have h9 := HV5.out.mono_base (show w.heap.size ≤ w.heap.size + 1 by omega); rw [show (lenU l).toNat = m from by rw [HLU.out, Int.toNat_natCast]]; exact h9) QB5.out)
          · have hs1 : (sm == 0) = false := by simpa using hs
            have hs2 : (sm != 0) = true := by simpa using hs
            have HE2 : Hid (dE fr to l = 4) := hid (by rw [HE1.out, if_pos (by rw [HBU.out]; simp [hc, hs])])
            go_wp2_with (refine wp_storeOb rfl 32 _ _ rfl _ _ rfl rfl _ _ OR.out rfl (by kernel_rfl) (by simp [Value.oneCell']) (fun W9 hW9 => ?_); try simp only [Act.put, List.setIfInBounds_toArray, List.set_cons_zero, List.set_cons_succ]; have OR5 := hid (OR.out.eq_all hW9 rfl); have QB5 := hid (QB.out.eq_all hW9 (Or.inr (by simp))); clear hW9)
            have r0 := OR5.out.cell 0; have r1 := OR5.out.cell 1; have r2 := OR5.out.cell 2; have r3 := OR5.out.cell 3; have r4 := OR5.out.cell 4
            exact bodyPost_ret (v := .tuple #[.agg #[.int .u32 0, .int .i64 0, .int .u32 0, .int .i64 0, .slice none 0 0], .int .i64 4]) (by simp [results, Try.results25, go_sem, *]) rfl (DEnd.no HE2.out (by decide) QB5.out)
end Go.Proofs.Ytnhakcgkhhficaa.udp
