/-
  Chapter 13 (ring): Write, Peek, Drop and New of a Ring, each by a walk of its text. Conditions: none but those typed.
-/
import Derived.Test.YtbjmckmajpdglaaRngB
import Derived.Test.YtbjmckmajpdglaaCpy
namespace Go.Proofs.Ytbjmckmajpdglaa.rng
set_option linter.unusedVariables false
set_option linter.unusedSimpArgs false
open Go.ChangeShapes Go.WideShapes Go.ChangeAt Go.RowKit Go.IntWalk Go.Lib
/-- What Peek hands out. -/
def peekL (l : List Int) (a n : Int) : List Int := if a < 0 ∨ n < 1 then [] else (l.drop a.toNat).take n.toNat
def PEnd (w : World) (l : List Int) (x : Ending) (w' : World) : Prop := ∃ v, x = .returned v ∧ Own .u8 5 w' w.heap.size v l ∧ Only [] w w'
set_option maxHeartbeats 4000000 in
theorem peek (w : World) (g b N f : Nat) (z l : List Int) (a n : Int) (H : RObj w g b N f l.length) (Z : Ob w b 5 (rowV .u8 z)) (hz : ∀ y ∈ z, (Lit.int .u8 y).wf = true) (hrel : Rel N f z l) (hN : 1 ≤ N ∧ N ≤ 1048560) (hgb : g ≠ b)
    (ha : -9223372036854775808 ≤ a ∧ a ≤ 9223372036854775807) (hn : -9223372036854775808 ≤ n ∧ n ≤ 9223372036854775807) :
    Calls Try.prog 17 #[.pointer (some ⟨g, 0, none⟩), .int .i64 a, .int .i64 n] w (PEnd w (peekL l a n)) := by
  have hfit := hrel.fits
  have hf := hrel.first
  have c2 : w.cell? ⟨g, 2, none⟩ = some (.int .i64 (l.length : Nat)) := H.cell 2
  have HR := hid H; have HZ := hid Z; have HRel := hid hrel; have HZW := hid hz
  clear H Z hrel hz
  have HNIL : Hid (Own .u8 5 w w.heap.size (.slice none 0 0) []) := hid (Own.nil _ _ _ _)
  by_cases hneg : a < 0
  · have HE : Hid (peekL l a n = []) := hid (by unfold peekL; rw [if_pos (.inl hneg)])
    go_enter Try.func17, Try.ntmps17
    go_wp2
    go_ret
    exact ⟨_, rfl, by rw [HE.out]; exact HNIL.out, Only.refl _ _⟩
  · by_cases hbig : (l.length : Int) ≤ a
    · have HE : Hid (peekL l a n = []) := hid (by
        unfold peekL
        split
        · rfl
        · rw [List.drop_eq_nil_of_le (by omega)]; simp)
      go_enter Try.func17, Try.ntmps17
      go_wp2
      go_ret
      exact ⟨_, rfl, by rw [HE.out]; exact HNIL.out, Only.refl _ _⟩
    · by_cases hsm : n < 1
      · have HE : Hid (peekL l a n = []) := hid (by unfold peekL; rw [if_pos (.inr hsm)])
        go_enter Try.func17, Try.ntmps17
        go_wp2
        go_ret
        exact ⟨_, rfl, by rw [HE.out]; exact HNIL.out, Only.refl _ _⟩
      · obtain ⟨i, rfl⟩ : ∃ i : Nat, a = (i : Int) := ⟨a.toNat, by omega⟩
        have hi1 : i < l.length := by omega
        have HLC : Hid ((l.drop i).length = l.length - i) := hid (by simp)
        by_cases hmn : n ≤ (l.length : Int) - i
        · obtain ⟨k, rfl⟩ : ∃ k : Nat, n = (k : Int) := ⟨n.toNat, by omega⟩
          have HE : Hid (peekL l i k = (l.drop i).take k) := hid (by unfold peekL; rw [if_neg (by omega)]; simp)
          have hmi : ¬ ((l.length : Int) - i < k) := by omega
          have hkl : k + i ≤ l.length := by omega
          have hmk := run_mkB w k (by omega)
          clear hmn
          have hgl := HR.out.lt
          have hbl := HZ.out.lt
          obtain ⟨s, hs⟩ : ∃ s, (f + i) % N = s := ⟨_, rfl⟩
          have hsN : s < N := by rw [← hs]; exact Nat.mod_lt _ (by omega)
          have HS := hid hs; clear hs
          obtain ⟨d, hd⟩ : ∃ d, d = min k (N - s) := ⟨_, rfl⟩
          have HD := hid hd; clear hd
          have hdk : d ≤ k := by have := HD.out; omega
          have hdk2 : (d : Int) ≤ (l.length : Int) - i := by omega
          have HO : Hid (Ob (w.alloc (.cells (rowV .u8 (List.replicate k 0)) 5)) w.heap.size 5 (rowV .u8 (List.replicate k 0))) := hid (Ob.new _ _ _)
          have HB : Hid (Only [] w (w.alloc (.cells (rowV .u8 (List.replicate k 0)) 5))) := hid ((Only.refl [] w).alloc _)
          have HR := hid (HR.out.alloc (.cells (rowV .u8 (List.replicate k 0)) 5)); have HZ := hid (HZ.out.alloc (.cells (rowV .u8 (List.replicate k 0)) 5))
          have HSL : Hid ((splice (List.replicate k (0 : Int)) 0 (((z.drop s).take (N - s)).take d)).length = k) := hid (by rw [length_splice _ _ _ (by rw [List.length_take, List.length_take, List.length_drop, List.length_replicate]; have := HD.out; omega), List.length_replicate])
          have HPK : Hid (splice (splice (List.replicate k (0 : Int)) 0 (((z.drop s).take (N - s)).take d)) d (((z.drop 0).take N).take (k - d)) = (l.drop i).take k) := hid (by
            have := HRel.out.peek (o := List.replicate k 0) i k s d hkl HS.out.symm HD.out (by simp)
            have hzl := HRel.out.len
            have e1 : ((z.drop s).take (N - s)) = z.drop s := List.take_of_length_le (by simp; omega)
            have e2 : ((z.drop 0).take N) = z := by rw [List.drop_zero, List.take_of_length_le (by omega)]
            rw [e1, e2]; exact this)
          have HWZ : Hid (∀ x ∈ (l.drop i).take k, (Lit.int .u8 x).wf = true) := hid (by
            rw [← HPK.out]
            refine splice_mem (splice_mem (fun x hx => by rw [List.mem_replicate] at hx; rw [hx.2]; decide) (fun x hx => HZW.out x (List.mem_of_mem_drop (List.mem_of_mem_take (List.mem_of_mem_take hx))))) (fun x hx => HZW.out x (List.mem_of_mem_drop (List.mem_of_mem_take (List.mem_of_mem_take hx)))))
          have HPL : Hid (((l.drop i).take k).length = k) := hid (by simp; omega)
          go_enter Try.func17, Try.ntmps17
          go_wp2_with fail
          refine wp_region_noPanic ?_
          refine rgn.regionT (R := Only [w.heap.size]) (by kernel_rfl) (Only.refl [w.heap.size]) (fun _ _ _ => Only.trans) (fun _ _ _ _ _ h => h) (.y 0 (.y 1 (.y 2 (.y 3 (.y 4 (.y 5 (.y 6 (.e 7 (.y 8 (.e 9 (.e 10 .z))))))))))) (by kernel_rfl) (fun W hWd => ?_)
          have HWd := hid hWd; clear hWd
          have HR := hid (HR.out.eq_drew HWd.out); have HZ := hid (HZ.out.eq_drew HWd.out); have HO := hid (HO.out.eq_drew HWd.out); have HB := hid (HB.out.eq_drew HWd.out)
          have c0 : W.cell? ⟨g, 0, none⟩ = some (.slice (some ⟨b, 0, none⟩) N N) := HR.out.cell 0
          have c1 : W.cell? ⟨g, 1, none⟩ = some (.int .i64 f) := HR.out.cell 1
          have c2 : W.cell? ⟨g, 2, none⟩ = some (.int .i64 (l.length : Nat)) := HR.out.cell 2
          refine rgn.Walk.ys (v := ?_) rfl rfl rfl ?_ ?_
          rotate_left 1
          · intro W' hW'
            go_simp
            try with_reducible rfl
          try simp only [Act.put, List.setIfInBounds_toArray, List.set_cons_zero, List.set_cons_succ]
          refine rgn.Walk.ys (v := ?_) rfl rfl rfl ?_ ?_
          rotate_left 1
          · intro W' hW'
            go_simp
            try with_reducible rfl
          try simp only [Act.put, List.setIfInBounds_toArray, List.set_cons_zero, List.set_cons_succ]
          refine rgn.Walk.ys (v := ?_) rfl rfl rfl ?_ ?_
          rotate_left 1
          · intro W' hW'
            go_simp
            try with_reducible rfl
          try simp only [Act.put, List.setIfInBounds_toArray, List.set_cons_zero, List.set_cons_succ]
          refine rgn.Walk.ys (v := ?_) rfl rfl rfl ?_ ?_
          rotate_left 1
          · intro W' hW'
            go_simp
            try with_reducible rfl
          try simp only [Act.put, List.setIfInBounds_toArray, List.set_cons_zero, List.set_cons_succ]
          refine rgn.Walk.ys (v := ?_) rfl rfl rfl ?_ ?_
          rotate_left 1
          · intro W' hW'
            have q0 := hW'.keepN (p := ⟨g, 0, none⟩) c0 (by simp; omega)
            go_simp
            try with_reducible rfl
          try simp only [Act.put, List.setIfInBounds_toArray, List.set_cons_zero, List.set_cons_succ]
          refine rgn.Walk.ys (v := ?_) rfl rfl rfl ?_ ?_
          rotate_left 1
          · intro W' hW'
            go_simp
            try with_reducible rfl
          try simp only [Act.put, List.setIfInBounds_toArray, List.set_cons_zero, List.set_cons_succ]
          refine rgn.Walk.ys (v := ?_) rfl rfl rfl ?_ ?_
          rotate_left 1
          · intro W' hW'
            go_simp
            try with_reducible rfl
          try simp only [Act.put, List.setIfInBounds_toArray, List.set_cons_zero, List.set_cons_succ]
          refine rgn.Walk.es ?_
          refine rgn.stepE rfl rfl (fun K hK => ?_)
          go_simp
          refine (place _ g b N f l.length i HR.out hN hf (by omega)).mono ?_
          rintro x w3 ⟨rfl, q, rfl⟩
          refine hK _ _ ((Only.refl _ _).drewN q) ?_
          clear hK K
          try simp only [Act.put, List.setIfInBounds_toArray, List.set_cons_zero, List.set_cons_succ]
          have HR := hid (HR.out.drewN q); have HZ := hid (HZ.out.drewN q); have HO := hid (HO.out.drewN q); have HB := hid (HB.out.drewN q)
          clear c0 c1 c2
          rw [HS.out]
          refine rgn.Walk.ys (v := ?_) rfl rfl rfl ?_ ?_
          rotate_left 1
          · intro W' hW'
            go_simp
            rw [if_pos (by omega : s ≤ N), if_neg (by omega : ¬ N = s)]
            try with_reducible rfl
          try simp only [Act.put, List.setIfInBounds_toArray, List.set_cons_zero, List.set_cons_succ]
          refine rgn.Walk.es ?_
          refine rgn.stepE rfl rfl (fun K hK => ?_)
          refine opCopy rfl _ _ _ _ rfl 5 Try.underlying32 (by kernel_rfl) (some ⟨w.heap.size, 0, none⟩) (some ⟨b, s, none⟩) (k) (k) (N - s) (N - s) (by go_simp <;> first | rfl | (congr 1 <;> omega)) (by go_simp <;> first | rfl | (congr 1 <;> omega)) w.heap.size 0 _ 5 HO.out ((z.drop s).take (N - s)) (HZ.out.part HZW.out s (N - s) (by have := HRel.out.len; omega)) (d) (by have := HD.out; omega) (fun _ => rfl) (by first | (rw [HSL.out]; have := HD.out; omega) | (rw [List.length_replicate]; have := HD.out; omega)) ?_
          intro w4 hz4 o4
          refine hK _ _ o4 ?_
          clear hK K
          try simp only [Act.put, List.setIfInBounds_toArray, List.set_cons_zero, List.set_cons_succ]
          have HO := hz4; have HR := hid (HR.out.only o4 (by simp; omega)); have HZ := hid (HZ.out.only o4 (by simp; omega)); have HB := hid (HB.out.fresh o4 (by simp))
          clear o4 hz4
          refine rgn.Walk.es ?_
          refine rgn.stepE rfl rfl (fun K hK => ?_)
          go_simp
          refine hK _ _ ((Only.refl [w.heap.size]) _) ?_
          clear hK K
          try simp only [Act.put, List.setIfInBounds_toArray, List.set_cons_zero, List.set_cons_succ]
          refine rgn.Walk.zs (NoPanic.normal ?_)
          go_wp2_with fail
          refine wp_region_noPanic ?_
          refine rgn.regionT (R := Only [w.heap.size]) (by kernel_rfl) (Only.refl [w.heap.size]) (fun _ _ _ => Only.trans) (fun _ _ _ _ _ h => h) (.y 0 (.y 1 (.y 2 (.y 3 (.y 4 (.y 5 (.y 6 (.e 7 .z)))))))) (by kernel_rfl) (fun W hWd => ?_)
          have HWd := hid hWd; clear hWd
          have HR := hid (HR.out.eq_drew HWd.out); have HZ := hid (HZ.out.eq_drew HWd.out); have HO := hid (HO.out.eq_drew HWd.out); have HB := hid (HB.out.eq_drew HWd.out)
          have c0 : W.cell? ⟨g, 0, none⟩ = some (.slice (some ⟨b, 0, none⟩) N N) := HR.out.cell 0
          have c1 : W.cell? ⟨g, 1, none⟩ = some (.int .i64 f) := HR.out.cell 1
          have c2 : W.cell? ⟨g, 2, none⟩ = some (.int .i64 (l.length : Nat)) := HR.out.cell 2
          refine rgn.Walk.ys (v := ?_) rfl rfl rfl ?_ ?_
          rotate_left 1
          · intro W' hW'
            go_simp
            try with_reducible rfl
          try simp only [Act.put, List.setIfInBounds_toArray, List.set_cons_zero, List.set_cons_succ]
          refine rgn.Walk.ys (v := ?_) rfl rfl rfl ?_ ?_
          rotate_left 1
          · intro W' hW'
            go_simp
            try with_reducible rfl
          try simp only [Act.put, List.setIfInBounds_toArray, List.set_cons_zero, List.set_cons_succ]
          refine rgn.Walk.ys (v := ?_) rfl rfl rfl ?_ ?_
          rotate_left 1
          · intro W' hW'
            go_simp
            try with_reducible rfl
          try simp only [Act.put, List.setIfInBounds_toArray, List.set_cons_zero, List.set_cons_succ]
          refine rgn.Walk.ys (v := ?_) rfl rfl rfl ?_ ?_
          rotate_left 1
          · intro W' hW'
            go_simp
            try with_reducible rfl
          try simp only [Act.put, List.setIfInBounds_toArray, List.set_cons_zero, List.set_cons_succ]
          refine rgn.Walk.ys (v := ?_) rfl rfl rfl ?_ ?_
          rotate_left 1
          · intro W' hW'
            go_simp
            try with_reducible rfl
          try simp only [Act.put, List.setIfInBounds_toArray, List.set_cons_zero, List.set_cons_succ]
          refine rgn.Walk.ys (v := ?_) rfl rfl rfl ?_ ?_
          rotate_left 1
          · intro W' hW'
            go_simp
            try with_reducible rfl
          try simp only [Act.put, List.setIfInBounds_toArray, List.set_cons_zero, List.set_cons_succ]
          refine rgn.Walk.ys (v := ?_) rfl rfl rfl ?_ ?_
          rotate_left 1
          · intro W' hW'
            have q0 := hW'.keepN (p := ⟨g, 0, none⟩) c0 (by simp; omega)
            go_simp
            try with_reducible rfl
          try simp only [Act.put, List.setIfInBounds_toArray, List.set_cons_zero, List.set_cons_succ]
          refine rgn.Walk.es ?_
          refine rgn.stepE rfl rfl (fun K hK => ?_)
          refine opCopy rfl _ _ _ _ rfl 5 Try.underlying32 (by kernel_rfl) (if k = d then some ⟨w.heap.size, 0, none⟩ else some ⟨w.heap.size, d, none⟩) (some ⟨b, 0, none⟩) (k - d) (k - d) (N) (N) (by go_simp <;> first | rfl | (congr 1 <;> omega)) (by go_simp <;> first | rfl | (congr 1 <;> omega)) w.heap.size d _ 5 HO.out ((z.drop 0).take N) (HZ.out.part HZW.out 0 N (by have := HRel.out.len; omega)) (k - d) (by have := HD.out; omega) (fun h0 => by rw [if_neg (by omega)]) (by first | (rw [HSL.out]; have := HD.out; omega) | (rw [List.length_replicate]; have := HD.out; omega)) ?_
          intro w4 hz4 o4
          refine hK _ _ o4 ?_
          clear hK K
          try simp only [Act.put, List.setIfInBounds_toArray, List.set_cons_zero, List.set_cons_succ]
          have HO := hz4; have HR := hid (HR.out.only o4 (by simp; omega)); have HZ := hid (HZ.out.only o4 (by simp; omega)); have HB := hid (HB.out.fresh o4 (by simp))
          clear o4 hz4
          refine rgn.Walk.zs (NoPanic.normal ?_)
          clear c0 c1 c2
          have h4 := HO.out
          rw [HPK.out] at h4
          have HFIN := hid (Own.of_ob h4 (Nat.le_refl _) HWZ.out HPL.out (by unfold maxLen; omega))
          rw [← HE.out] at HFIN
          clear h4
          go_wp2
          all_goals
            go_ret
            first | exact ⟨_, rfl, HFIN.out, HB.out⟩ | (obtain rfl : k = d := (by omega); exact ⟨_, rfl, HFIN.out, HB.out⟩)
        · obtain ⟨k, hk⟩ : ∃ k : Nat, (k : Int) = (l.length : Int) - i := ⟨l.length - i, by omega⟩
          have HE : Hid (peekL l i n = (l.drop i).take k) := hid (by unfold peekL; rw [if_neg (by omega), List.take_of_length_le (by simp; omega), List.take_of_length_le (by simp; omega)]; simp)
          have hmi : ((l.length : Int) - i < n) := by omega
          have hkl : k + i ≤ l.length := by omega
          have hmk := run_mkB w k (by omega)
          rw [hk] at hmk
          clear hmn
          have hgl := HR.out.lt
          have hbl := HZ.out.lt
          obtain ⟨s, hs⟩ : ∃ s, (f + i) % N = s := ⟨_, rfl⟩
          have hsN : s < N := by rw [← hs]; exact Nat.mod_lt _ (by omega)
          have HS := hid hs; clear hs
          obtain ⟨d, hd⟩ : ∃ d, d = min k (N - s) := ⟨_, rfl⟩
          have HD := hid hd; clear hd
          have hdk : d ≤ k := by have := HD.out; omega
          have hdk2 : (d : Int) ≤ (l.length : Int) - i := by omega
          have HO : Hid (Ob (w.alloc (.cells (rowV .u8 (List.replicate k 0)) 5)) w.heap.size 5 (rowV .u8 (List.replicate k 0))) := hid (Ob.new _ _ _)
          have HB : Hid (Only [] w (w.alloc (.cells (rowV .u8 (List.replicate k 0)) 5))) := hid ((Only.refl [] w).alloc _)
          have HR := hid (HR.out.alloc (.cells (rowV .u8 (List.replicate k 0)) 5)); have HZ := hid (HZ.out.alloc (.cells (rowV .u8 (List.replicate k 0)) 5))
          have HSL : Hid ((splice (List.replicate k (0 : Int)) 0 (((z.drop s).take (N - s)).take d)).length = k) := hid (by rw [length_splice _ _ _ (by rw [List.length_take, List.length_take, List.length_drop, List.length_replicate]; have := HD.out; omega), List.length_replicate])
          have HPK : Hid (splice (splice (List.replicate k (0 : Int)) 0 (((z.drop s).take (N - s)).take d)) d (((z.drop 0).take N).take (k - d)) = (l.drop i).take k) := hid (by
            have := HRel.out.peek (o := List.replicate k 0) i k s d hkl HS.out.symm HD.out (by simp)
            have hzl := HRel.out.len
            have e1 : ((z.drop s).take (N - s)) = z.drop s := List.take_of_length_le (by simp; omega)
            have e2 : ((z.drop 0).take N) = z := by rw [List.drop_zero, List.take_of_length_le (by omega)]
            rw [e1, e2]; exact this)
          have HWZ : Hid (∀ x ∈ (l.drop i).take k, (Lit.int .u8 x).wf = true) := hid (by
            rw [← HPK.out]
            refine splice_mem (splice_mem (fun x hx => by rw [List.mem_replicate] at hx; rw [hx.2]; decide) (fun x hx => HZW.out x (List.mem_of_mem_drop (List.mem_of_mem_take (List.mem_of_mem_take hx))))) (fun x hx => HZW.out x (List.mem_of_mem_drop (List.mem_of_mem_take (List.mem_of_mem_take hx)))))
          have HPL : Hid (((l.drop i).take k).length = k) := hid (by simp; omega)
          go_enter Try.func17, Try.ntmps17
          go_wp2_with fail
          refine wp_region_noPanic ?_
          refine rgn.regionT (R := Only [w.heap.size]) (by kernel_rfl) (Only.refl [w.heap.size]) (fun _ _ _ => Only.trans) (fun _ _ _ _ _ h => h) (.y 0 (.y 1 (.y 2 (.y 3 (.y 4 (.y 5 (.y 6 (.e 7 (.y 8 (.e 9 (.e 10 .z))))))))))) (by kernel_rfl) (fun W hWd => ?_)
          have HWd := hid hWd; clear hWd
          have HR := hid (HR.out.eq_drew HWd.out); have HZ := hid (HZ.out.eq_drew HWd.out); have HO := hid (HO.out.eq_drew HWd.out); have HB := hid (HB.out.eq_drew HWd.out)
          have c0 : W.cell? ⟨g, 0, none⟩ = some (.slice (some ⟨b, 0, none⟩) N N) := HR.out.cell 0
          have c1 : W.cell? ⟨g, 1, none⟩ = some (.int .i64 f) := HR.out.cell 1
          have c2 : W.cell? ⟨g, 2, none⟩ = some (.int .i64 (l.length : Nat)) := HR.out.cell 2
          refine rgn.Walk.ys (v := ?_) rfl rfl rfl ?_ ?_
          rotate_left 1
          · intro W' hW'
            go_simp
            try with_reducible rfl
          try simp only [Act.put, List.setIfInBounds_toArray, List.set_cons_zero, List.set_cons_succ]
          refine rgn.Walk.ys (v := ?_) rfl rfl rfl ?_ ?_
          rotate_left 1
          · intro W' hW'
            go_simp
            try with_reducible rfl
          try simp only [Act.put, List.setIfInBounds_toArray, List.set_cons_zero, List.set_cons_succ]
          refine rgn.Walk.ys (v := ?_) rfl rfl rfl ?_ ?_
          rotate_left 1
          · intro W' hW'
            go_simp
            try with_reducible rfl
          try simp only [Act.put, List.setIfInBounds_toArray, List.set_cons_zero, List.set_cons_succ]
          refine rgn.Walk.ys (v := ?_) rfl rfl rfl ?_ ?_
          rotate_left 1
          · intro W' hW'
            go_simp
            try with_reducible rfl
          try simp only [Act.put, List.setIfInBounds_toArray, List.set_cons_zero, List.set_cons_succ]
          refine rgn.Walk.ys (v := ?_) rfl rfl rfl ?_ ?_
          rotate_left 1
          · intro W' hW'
            have q0 := hW'.keepN (p := ⟨g, 0, none⟩) c0 (by simp; omega)
            go_simp
            try with_reducible rfl
          try simp only [Act.put, List.setIfInBounds_toArray, List.set_cons_zero, List.set_cons_succ]
          refine rgn.Walk.ys (v := ?_) rfl rfl rfl ?_ ?_
          rotate_left 1
          · intro W' hW'
            go_simp
            try with_reducible rfl
          try simp only [Act.put, List.setIfInBounds_toArray, List.set_cons_zero, List.set_cons_succ]
          refine rgn.Walk.ys (v := ?_) rfl rfl rfl ?_ ?_
          rotate_left 1
          · intro W' hW'
            go_simp
            try with_reducible rfl
          try simp only [Act.put, List.setIfInBounds_toArray, List.set_cons_zero, List.set_cons_succ]
          refine rgn.Walk.es ?_
          refine rgn.stepE rfl rfl (fun K hK => ?_)
          go_simp
          refine (place _ g b N f l.length i HR.out hN hf (by omega)).mono ?_
          rintro x w3 ⟨rfl, q, rfl⟩
          refine hK _ _ ((Only.refl _ _).drewN q) ?_
          clear hK K
          try simp only [Act.put, List.setIfInBounds_toArray, List.set_cons_zero, List.set_cons_succ]
          have HR := hid (HR.out.drewN q); have HZ := hid (HZ.out.drewN q); have HO := hid (HO.out.drewN q); have HB := hid (HB.out.drewN q)
          clear c0 c1 c2
          rw [HS.out]
          refine rgn.Walk.ys (v := ?_) rfl rfl rfl ?_ ?_
          rotate_left 1
          · intro W' hW'
            go_simp
            rw [if_pos (by omega : s ≤ N), if_neg (by omega : ¬ N = s)]
            try with_reducible rfl
          try simp only [Act.put, List.setIfInBounds_toArray, List.set_cons_zero, List.set_cons_succ]
          refine rgn.Walk.es ?_
          refine rgn.stepE rfl rfl (fun K hK => ?_)
          refine opCopy rfl _ _ _ _ rfl 5 Try.underlying32 (by kernel_rfl) (some ⟨w.heap.size, 0, none⟩) (some ⟨b, s, none⟩) (k) (k) (N - s) (N - s) (by go_simp <;> first | rfl | (congr 1 <;> omega)) (by go_simp <;> first | rfl | (congr 1 <;> omega)) w.heap.size 0 _ 5 HO.out ((z.drop s).take (N - s)) (HZ.out.part HZW.out s (N - s) (by have := HRel.out.len; omega)) (d) (by have := HD.out; omega) (fun _ => rfl) (by first | (rw [HSL.out]; have := HD.out; omega) | (rw [List.length_replicate]; have := HD.out; omega)) ?_
          intro w4 hz4 o4
          refine hK _ _ o4 ?_
          clear hK K
          try simp only [Act.put, List.setIfInBounds_toArray, List.set_cons_zero, List.set_cons_succ]
          have HO := hz4; have HR := hid (HR.out.only o4 (by simp; omega)); have HZ := hid (HZ.out.only o4 (by simp; omega)); have HB := hid (HB.out.fresh o4 (by simp))
          clear o4 hz4
          refine rgn.Walk.es ?_
          refine rgn.stepE rfl rfl (fun K hK => ?_)
          go_simp
          refine hK _ _ ((Only.refl [w.heap.size]) _) ?_
          clear hK K
          try simp only [Act.put, List.setIfInBounds_toArray, List.set_cons_zero, List.set_cons_succ]
          refine rgn.Walk.zs (NoPanic.normal ?_)
          go_wp2_with fail
          refine wp_region_noPanic ?_
          refine rgn.regionT (R := Only [w.heap.size]) (by kernel_rfl) (Only.refl [w.heap.size]) (fun _ _ _ => Only.trans) (fun _ _ _ _ _ h => h) (.y 0 (.y 1 (.y 2 (.y 3 (.y 4 (.y 5 (.y 6 (.e 7 .z)))))))) (by kernel_rfl) (fun W hWd => ?_)
          have HWd := hid hWd; clear hWd
          have HR := hid (HR.out.eq_drew HWd.out); have HZ := hid (HZ.out.eq_drew HWd.out); have HO := hid (HO.out.eq_drew HWd.out); have HB := hid (HB.out.eq_drew HWd.out)
          have c0 : W.cell? ⟨g, 0, none⟩ = some (.slice (some ⟨b, 0, none⟩) N N) := HR.out.cell 0
          have c1 : W.cell? ⟨g, 1, none⟩ = some (.int .i64 f) := HR.out.cell 1
          have c2 : W.cell? ⟨g, 2, none⟩ = some (.int .i64 (l.length : Nat)) := HR.out.cell 2
          refine rgn.Walk.ys (v := ?_) rfl rfl rfl ?_ ?_
          rotate_left 1
          · intro W' hW'
            go_simp
            try with_reducible rfl
          try simp only [Act.put, List.setIfInBounds_toArray, List.set_cons_zero, List.set_cons_succ]
          refine rgn.Walk.ys (v := ?_) rfl rfl rfl ?_ ?_
          rotate_left 1
          · intro W' hW'
            go_simp
            try with_reducible rfl
          try simp only [Act.put, List.setIfInBounds_toArray, List.set_cons_zero, List.set_cons_succ]
          refine rgn.Walk.ys (v := ?_) rfl rfl rfl ?_ ?_
          rotate_left 1
          · intro W' hW'
            go_simp
            try with_reducible rfl
          try simp only [Act.put, List.setIfInBounds_toArray, List.set_cons_zero, List.set_cons_succ]
          refine rgn.Walk.ys (v := ?_) rfl rfl rfl ?_ ?_
          rotate_left 1
          · intro W' hW'
            go_simp
            try with_reducible rfl
          try simp only [Act.put, List.setIfInBounds_toArray, List.set_cons_zero, List.set_cons_succ]
          refine rgn.Walk.ys (v := ?_) rfl rfl rfl ?_ ?_
          rotate_left 1
          · intro W' hW'
            go_simp
            try with_reducible rfl
          try simp only [Act.put, List.setIfInBounds_toArray, List.set_cons_zero, List.set_cons_succ]
          refine rgn.Walk.ys (v := ?_) rfl rfl rfl ?_ ?_
          rotate_left 1
          · intro W' hW'
            go_simp
            try with_reducible rfl
          try simp only [Act.put, List.setIfInBounds_toArray, List.set_cons_zero, List.set_cons_succ]
          refine rgn.Walk.ys (v := ?_) rfl rfl rfl ?_ ?_
          rotate_left 1
          · intro W' hW'
            have q0 := hW'.keepN (p := ⟨g, 0, none⟩) c0 (by simp; omega)
            go_simp
            try with_reducible rfl
          try simp only [Act.put, List.setIfInBounds_toArray, List.set_cons_zero, List.set_cons_succ]
          refine rgn.Walk.es ?_
          refine rgn.stepE rfl rfl (fun K hK => ?_)
          refine opCopy rfl _ _ _ _ rfl 5 Try.underlying32 (by kernel_rfl) (if k = d then some ⟨w.heap.size, 0, none⟩ else some ⟨w.heap.size, d, none⟩) (some ⟨b, 0, none⟩) (k - d) (k - d) (N) (N) (by go_simp <;> first | rfl | (congr 1 <;> omega)) (by go_simp <;> first | rfl | (congr 1 <;> omega)) w.heap.size d _ 5 HO.out ((z.drop 0).take N) (HZ.out.part HZW.out 0 N (by have := HRel.out.len; omega)) (k - d) (by have := HD.out; omega) (fun h0 => by rw [if_neg (by omega)]) (by first | (rw [HSL.out]; have := HD.out; omega) | (rw [List.length_replicate]; have := HD.out; omega)) ?_
          intro w4 hz4 o4
          refine hK _ _ o4 ?_
          clear hK K
          try simp only [Act.put, List.setIfInBounds_toArray, List.set_cons_zero, List.set_cons_succ]
          have HO := hz4; have HR := hid (HR.out.only o4 (by simp; omega)); have HZ := hid (HZ.out.only o4 (by simp; omega)); have HB := hid (HB.out.fresh o4 (by simp))
          clear o4 hz4
          refine rgn.Walk.zs (NoPanic.normal ?_)
          clear c0 c1 c2
          have h4 := HO.out
          rw [HPK.out] at h4
          have HFIN := hid (Own.of_ob h4 (Nat.le_refl _) HWZ.out HPL.out (by unfold maxLen; omega))
          rw [← HE.out] at HFIN
          clear h4
          go_wp2
          all_goals
            go_ret
            first | exact ⟨_, rfl, HFIN.out, HB.out⟩ | (obtain rfl : k = d := (by omega); exact ⟨_, rfl, HFIN.out, HB.out⟩)
end Go.Proofs.Ytbjmckmajpdglaa.rng
