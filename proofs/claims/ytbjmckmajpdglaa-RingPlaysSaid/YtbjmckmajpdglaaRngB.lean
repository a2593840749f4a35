/-
  Chapter 13 (ring): Write, Peek, Drop and New of a Ring, each by a walk of its text. Conditions: none but those typed.
-/
import Derived.Test.YtbjmckmajpdglaaRngA
import Derived.Test.YtbjmckmajpdglaaCpy
namespace Go.Proofs.Ytbjmckmajpdglaa.rng
set_option linter.unusedVariables false
set_option linter.unusedSimpArgs false
open Go.ChangeShapes Go.WideShapes Go.ChangeAt Go.RowKit Go.IntWalk Go.Lib
/-- What Write leaves. -/
def WEnd (w : World) (g b N f k : Nat) (l p : List Int) (x : Ending) (w' : World) : Prop :=
  x = .returned (.int .i64 (k : Nat)) ∧ RObj w' g b N f (l.length + k) ∧ (∃ z, Ob w' b 5 (rowV .u8 z) ∧ (∀ y ∈ z, (Lit.int .u8 y).wf = true) ∧ Rel N f z (l ++ p.take k)) ∧ Only [g, b] w w'
set_option maxHeartbeats 4000000 in
theorem write (w : World) (g b N f : Nat) (z l p : List Int) (A : Option Addr) (n c : Nat) (H : RObj w g b N f l.length) (Z : Ob w b 5 (rowV .u8 z)) (hz : ∀ y ∈ z, (Lit.int .u8 y).wf = true) (hrel : Rel N f z l) (hN : 1 ≤ N ∧ N ≤ 1048560) (hgb : g ≠ b)
    (P : Rd .u8 w A n p) (hnc : n ≤ c) (hc : c ≤ 9223372036854775807) (hA : 0 < n → ∀ x off, A = some ⟨x, off, none⟩ → x ≠ g ∧ x ≠ b) (k : Nat) (hk : k = min n (N - l.length)) :
    Calls Try.prog 13 #[.pointer (some ⟨g, 0, none⟩), .slice A n c] w (WEnd w g b N f k l p) := by
  have hfit := hrel.fits
  have hf := hrel.first
  have HR := hid H; have HZ := hid Z; have HP := hid P; have HRel := hid hrel; have HZW := hid hz
  clear H Z P hrel hz
  subst hk
  by_cases hm : n ≤ N - l.length
  · rw [show min n (N - l.length) = n from by omega]
    have hmi : ¬ (((N - l.length : Nat) : Int) < n) := by omega
    go_enter Try.func13, Try.ntmps13
    go_wp2_with fail
    refine (free _ g b N f l.length HR.out (by omega) hfit).mono ?_
    rintro x w2 ⟨rfl, q, rfl⟩
    have HB : Hid (Only [g, b] w (w.drewN q)) := hid ((Only.refl _ w).drewN q)
    have HR := hid (HR.out.drewN q); have HZ := hid (HZ.out.drewN q); have HP := hid (HP.out.drewN q)
    generalize w.drewN q = w1 at *
    by_cases h0 : n = 0
    · have hk0 : (n : Int) = 0 := by omega
      go_wp2
      go_ret
      refine ⟨rInt hk0.symm, by rw [h0]; exact HR.out, ⟨z, HZ.out, HZW.out, by rw [h0]; simpa using HRel.out⟩, HB.out⟩
    · have hk0 : (((n : Nat) : Int) == 0) = false := by simp; omega
      obtain ⟨bp, op, rfl, hbp, _⟩ := HP.out.at_ (by omega)
      have hAb := hA (by omega)
      obtain ⟨s, hs⟩ : ∃ s, (f + l.length) % N = s := ⟨_, rfl⟩
      have hsN : s < N := by rw [← hs]; exact Nat.mod_lt _ (by omega)
      have HS := hid hs; clear hs
      obtain ⟨d, hd⟩ : ∃ d, d = min n (N - s) := ⟨_, rfl⟩
      have HD := hid hd; clear hd
      have HSL : Hid ((splice z s ((p.take n).take d)).length = N) := hid (by rw [length_splice _ _ _ (by rw [List.length_take, List.length_take]; have := HRel.out.len; have := HD.out; omega)]; exact HRel.out.len)
      have HRW : Hid (Rel N f (splice (splice z s ((p.take n).take d)) 0 (((p.take n).drop d).take (n - d))) (l ++ p.take n)) := hid (by
        have := HRel.out.write (p := p) (n) s d (by rw [HP.out.len]; omega) (by omega) HS.out.symm HD.out
        have e1 : (p.take (n)).take d = p.take d := by rw [List.take_take, Nat.min_eq_left (by have := HD.out; omega)]
        have e2 : ((p.take (n)).drop d).take (n - d) = (p.take (n)).drop d := List.take_of_length_le (by simp; omega)
        rw [e1, e2]; exact this)
      go_wp2_with fail
      refine wp_region_noPanic ?_
      refine rgn.regionT (R := Only [b]) (by kernel_rfl) (Only.refl [b]) (fun _ _ _ => Only.trans) (fun _ _ _ _ _ h => h) (.y 0 (.y 1 (.y 2 (.y 3 (.y 4 (.y 5 (.y 6 (.y 7 (.y 8 (.y 11 (.y 12 (.y 13 (.e 9 (.y 10 (.e 14 (.e 15 .z)))))))))))))))) (by kernel_rfl) (fun W hWd => ?_)
      have HWd := hid hWd; clear hWd
      have HR := hid (HR.out.eq_drew HWd.out); have HZ := hid (HZ.out.eq_drew HWd.out); have HP : Hid (Rd .u8 W (some ⟨bp, op, none⟩) n p) := hid (by have := HWd.out; subst this; exact HP.out.drew); have HB := hid (HB.out.eq_drew HWd.out)
      have c0 : W.cell? ⟨g, 0, none⟩ = some (.slice (some ⟨b, 0, none⟩) N N) := HR.out.cell 0
      have c1 : W.cell? ⟨g, 1, none⟩ = some (.int .i64 f) := HR.out.cell 1
      have c2 : W.cell? ⟨g, 2, none⟩ = some (.int .i64 (l.length : Nat)) := HR.out.cell 2
      refine rgn.Walk.ys (v := ?_) rfl rfl rfl ?_ ?_
      rotate_left 1
      · intro W' hW'
        go_simp
        try with_reducible rfl
      try simp only [Act.put, List.setIfInBounds_toArray, List.set_cons_zero, List.set_cons_succ]
      refine rgn.Walk.ys (v := ?_) rfl rfl rfl ?_ ?_
      rotate_left 1
      · intro W' hW'
        go_simp
        try with_reducible rfl
      try simp only [Act.put, List.setIfInBounds_toArray, List.set_cons_zero, List.set_cons_succ]
      refine rgn.Walk.ys (v := ?_) rfl rfl rfl ?_ ?_
      rotate_left 1
      · intro W' hW'
        go_simp
        try with_reducible rfl
      try simp only [Act.put, List.setIfInBounds_toArray, List.set_cons_zero, List.set_cons_succ]
      refine rgn.Walk.ys (v := ?_) rfl rfl rfl ?_ ?_
      rotate_left 1
      · intro W' hW'
        have q0 := hW'.keepN (p := ⟨g, 0, none⟩) c0 (by simp; exact hgb)
        go_simp
        try with_reducible rfl
      try simp only [Act.put, List.setIfInBounds_toArray, List.set_cons_zero, List.set_cons_succ]
      refine rgn.Walk.ys (v := ?_) rfl rfl rfl ?_ ?_
      rotate_left 1
      · intro W' hW'
        go_simp
        try with_reducible rfl
      try simp only [Act.put, List.setIfInBounds_toArray, List.set_cons_zero, List.set_cons_succ]
      refine rgn.Walk.ys (v := ?_) rfl rfl rfl ?_ ?_
      rotate_left 1
      · intro W' hW'
        go_simp
        try with_reducible rfl
      try simp only [Act.put, List.setIfInBounds_toArray, List.set_cons_zero, List.set_cons_succ]
      refine rgn.Walk.ys (v := ?_) rfl rfl rfl ?_ ?_
      rotate_left 1
      · intro W' hW'
        go_simp
        try with_reducible rfl
      try simp only [Act.put, List.setIfInBounds_toArray, List.set_cons_zero, List.set_cons_succ]
      refine rgn.Walk.ys (v := ?_) rfl rfl rfl ?_ ?_
      rotate_left 1
      · intro W' hW'
        go_simp
        try with_reducible rfl
      try simp only [Act.put, List.setIfInBounds_toArray, List.set_cons_zero, List.set_cons_succ]
      refine rgn.Walk.ys (v := ?_) rfl rfl rfl ?_ ?_
      rotate_left 1
      · intro W' hW'
        have q0 := hW'.keepN (p := ⟨g, 2, none⟩) c2 (by simp; exact hgb)
        go_simp
        try with_reducible rfl
      try simp only [Act.put, List.setIfInBounds_toArray, List.set_cons_zero, List.set_cons_succ]
      refine rgn.Walk.ys (v := ?_) rfl rfl rfl ?_ ?_
      rotate_left 1
      · intro W' hW'
        go_simp
        try with_reducible rfl
      try simp only [Act.put, List.setIfInBounds_toArray, List.set_cons_zero, List.set_cons_succ]
      refine rgn.Walk.ys (v := ?_) rfl rfl rfl ?_ ?_
      rotate_left 1
      · intro W' hW'
        go_simp
        try with_reducible rfl
      try simp only [Act.put, List.setIfInBounds_toArray, List.set_cons_zero, List.set_cons_succ]
      refine rgn.Walk.ys (v := ?_) rfl rfl rfl ?_ ?_
      rotate_left 1
      · intro W' hW'
        have hkc : n ≤ c := by omega
        go_simp
        try with_reducible rfl
      try simp only [Act.put, List.setIfInBounds_toArray, List.set_cons_zero, List.set_cons_succ]
      refine rgn.Walk.es ?_
      refine rgn.stepE rfl rfl (fun K hK => ?_)
      go_simp
      refine (place _ g b N f l.length l.length HR.out hN hf (by omega)).mono ?_
      rintro x w3 ⟨rfl, q, rfl⟩
      refine hK _ _ ((Only.refl _ _).drewN q) ?_
      clear hK K
      try simp only [Act.put, List.setIfInBounds_toArray, List.set_cons_zero, List.set_cons_succ]
      have HR := hid (HR.out.drewN q); have HZ := hid (HZ.out.drewN q); have HP := hid (HP.out.drewN q); have HB := hid (HB.out.drewN q)
      clear c0 c1 c2
      rw [HS.out]
      refine rgn.Walk.ys (v := ?_) rfl rfl rfl ?_ ?_
      rotate_left 1
      · intro W' hW'
        go_simp
        rw [if_pos (by omega : s ≤ N), if_neg (by omega : ¬ N = s)]
        try with_reducible rfl
      try simp only [Act.put, List.setIfInBounds_toArray, List.set_cons_zero, List.set_cons_succ]
      refine rgn.Walk.es ?_
      refine rgn.stepE rfl rfl (fun K hK => ?_)
      refine opCopy rfl _ _ _ _ rfl 5 Try.underlying32 (by kernel_rfl) (some ⟨b, s, none⟩) (some ⟨bp, op, none⟩) (N - s) (N - s) n c (by go_simp <;> first | rfl | (congr 1 <;> omega)) (by go_simp <;> first | rfl | (congr 1 <;> omega)) b s z 5 HZ.out (p.take n) (HP.out.take n (by omega)) d HD.out (fun _ => rfl) (by have := HRel.out.len; have := HD.out; omega) ?_
      intro w4 hz4 o4
      refine hK _ _ o4 ?_
      clear hK K
      try simp only [Act.put, List.setIfInBounds_toArray, List.set_cons_zero, List.set_cons_succ]
      have HZ := hz4; have HR := hid (HR.out.only o4 (by simp; exact hgb)); have HP := hid (HP.out.only o4 (by intro bb off e _ hm; simp at hm; injection e with e; injection e with e1 e2; exact (hAb _ _ rfl).2 (e1.trans hm))); have HB := hid (HB.out.trans (o4.more (by simp)))
      clear o4 hz4
      refine rgn.Walk.es ?_
      refine rgn.stepE rfl rfl (fun K hK => ?_)
      go_simp
      refine hK _ _ ((Only.refl [b]) _) ?_
      clear hK K
      try simp only [Act.put, List.setIfInBounds_toArray, List.set_cons_zero, List.set_cons_succ]
      refine rgn.Walk.zs (NoPanic.normal ?_)
      go_wp2_with fail
      have HPD : Hid (∀ W : World, Rd .u8 W (some ⟨bp, op, none⟩) n p → Rd .u8 W (if c = d then some ⟨bp, op, none⟩ else some ⟨bp, op + d, none⟩) (n - d) ((p.take (n)).drop d)) := hid (fun W h => by
        have hd2 := HD.out
        split
        · rw [show n - d = 0 from by omega, List.drop_eq_nil_of_le (by rw [List.length_take]; omega)]; exact Rd.nil _ _ _
        · exact (h.take (n) (by omega)).drop d (by omega))
      refine wp_region_noPanic ?_
      refine rgn.regionT (R := Only [b]) (by kernel_rfl) (Only.refl [b]) (fun _ _ _ => Only.trans) (fun _ _ _ _ _ h => h) (.y 0 (.y 1 (.y 2 (.y 3 (.y 4 (.y 5 (.y 6 (.y 7 (.e 8 .z))))))))) (by kernel_rfl) (fun W hWd => ?_)
      have HWd := hid hWd; clear hWd
      have HR := hid (HR.out.eq_drew HWd.out); have HZ := hid (HZ.out.eq_drew HWd.out); have HP : Hid (Rd .u8 W (some ⟨bp, op, none⟩) n p) := hid (by have := HWd.out; subst this; exact HP.out.drew); have HB := hid (HB.out.eq_drew HWd.out)
      have c0 : W.cell? ⟨g, 0, none⟩ = some (.slice (some ⟨b, 0, none⟩) N N) := HR.out.cell 0
      have c1 : W.cell? ⟨g, 1, none⟩ = some (.int .i64 f) := HR.out.cell 1
      have c2 : W.cell? ⟨g, 2, none⟩ = some (.int .i64 (l.length : Nat)) := HR.out.cell 2
      refine rgn.Walk.ys (v := ?_) rfl rfl rfl ?_ ?_
      rotate_left 1
      · intro W' hW'
        go_simp
        try with_reducible rfl
      try simp only [Act.put, List.setIfInBounds_toArray, List.set_cons_zero, List.set_cons_succ]
      refine rgn.Walk.ys (v := ?_) rfl rfl rfl ?_ ?_
      rotate_left 1
      · intro W' hW'
        go_simp
        try with_reducible rfl
      try simp only [Act.put, List.setIfInBounds_toArray, List.set_cons_zero, List.set_cons_succ]
      refine rgn.Walk.ys (v := ?_) rfl rfl rfl ?_ ?_
      rotate_left 1
      · intro W' hW'
        go_simp
        try with_reducible rfl
      try simp only [Act.put, List.setIfInBounds_toArray, List.set_cons_zero, List.set_cons_succ]
      refine rgn.Walk.ys (v := ?_) rfl rfl rfl ?_ ?_
      rotate_left 1
      · intro W' hW'
        have q0 := hW'.keepN (p := ⟨g, 0, none⟩) c0 (by simp; exact hgb)
        go_simp
        try with_reducible rfl
      try simp only [Act.put, List.setIfInBounds_toArray, List.set_cons_zero, List.set_cons_succ]
      refine rgn.Walk.ys (v := ?_) rfl rfl rfl ?_ ?_
      rotate_left 1
      · intro W' hW'
        go_simp
        try with_reducible rfl
      try simp only [Act.put, List.setIfInBounds_toArray, List.set_cons_zero, List.set_cons_succ]
      refine rgn.Walk.ys (v := ?_) rfl rfl rfl ?_ ?_
      rotate_left 1
      · intro W' hW'
        go_simp
        try with_reducible rfl
      try simp only [Act.put, List.setIfInBounds_toArray, List.set_cons_zero, List.set_cons_succ]
      refine rgn.Walk.ys (v := ?_) rfl rfl rfl ?_ ?_
      rotate_left 1
      · intro W' hW'
        go_simp
        try with_reducible rfl
      try simp only [Act.put, List.setIfInBounds_toArray, List.set_cons_zero, List.set_cons_succ]
      refine rgn.Walk.ys (v := ?_) rfl rfl rfl ?_ ?_
      rotate_left 1
      · intro W' hW'
        have hd2 : d ≤ n := by have := HD.out; omega
        go_simp
        try with_reducible rfl
      try simp only [Act.put, List.setIfInBounds_toArray, List.set_cons_zero, List.set_cons_succ]
      refine rgn.Walk.es ?_
      refine rgn.stepE rfl rfl (fun K hK => ?_)
      refine opCopy rfl _ _ _ _ rfl 5 Try.underlying32 (by kernel_rfl) (some ⟨b, 0, none⟩) (if c = d then some ⟨bp, op, none⟩ else some ⟨bp, op + d, none⟩) N N (n - d) (c - d) (by go_simp <;> first | rfl | (congr 1 <;> omega)) (by go_simp <;> first | rfl | (congr 1 <;> omega)) b 0 _ 5 HZ.out ((p.take (n)).drop d) (HPD.out _ HP.out) (n - d) (by have := HD.out; omega) (fun _ => rfl) (by rw [HSL.out]; omega) ?_
      intro w4 hz4 o4
      refine hK _ _ o4 ?_
      clear hK K
      try simp only [Act.put, List.setIfInBounds_toArray, List.set_cons_zero, List.set_cons_succ]
      have HZ := hz4; have HR := hid (HR.out.only o4 (by simp; exact hgb)); have HB := hid (HB.out.trans (o4.more (by simp)))
      clear o4 hz4
      refine rgn.Walk.zs (NoPanic.normal ?_)
      clear c0 c1 c2
      have c2 : w4.cell? ⟨g, 2, none⟩ = some (.int .i64 (l.length : Nat)) := HR.out.cell 2
      have f2 := HR.out.frozen 2
      have HWZ := hid (splice_mem (off := 0) (splice_mem (off := s) HZW.out (fun x hx => HP.out.wf x (List.mem_of_mem_take (List.mem_of_mem_take hx)))) (fun x hx => HP.out.wf x (List.mem_of_mem_take (List.mem_of_mem_drop (List.mem_of_mem_take hx)))) : ∀ x ∈ splice (splice z s ((p.take (n)).take d)) 0 (((p.take (n)).drop d).take (n - d)), (Lit.int .u8 x).wf = true)
      go_wp2
      all_goals
       go_ret
       refine ⟨rfl, ?_, ⟨_, HZ.out.far (p := ⟨g, 2, none⟩) (Ne.symm hgb) _, HWZ.out, HRW.out⟩, HB.out.setCell (p := ⟨g, 2, none⟩) (.inl (by simp)) _⟩
       have := HR.out.set 2 (.int .i64 ((l.length : Nat) + ((n : Nat) : Int)))
       simpa [RObj] using this
  · obtain ⟨m, hm2⟩ : ∃ m, N - l.length = m := ⟨_, rfl⟩
    rw [show min n (N - l.length) = m from by omega]
    have hmi : ((m : Int) < n) := by omega
    have hm3 : m + l.length ≤ N := by omega
    have hm4 : m < n := by omega
    have hm5 : m ≤ c := by omega
    clear hm
    have HM2 := hid hm2; clear hm2
    go_enter Try.func13, Try.ntmps13
    go_wp2_with fail
    refine (free _ g b N f l.length HR.out (by omega) hfit).mono ?_
    rw [HM2.out]
    rintro x w2 ⟨rfl, q, rfl⟩
    have HB : Hid (Only [g, b] w (w.drewN q)) := hid ((Only.refl _ w).drewN q)
    have HR := hid (HR.out.drewN q); have HZ := hid (HZ.out.drewN q); have HP := hid (HP.out.drewN q)
    generalize w.drewN q = w1 at *
    by_cases h0 : m = 0
    · have hk0 : ((m : Nat) : Int) = 0 := by omega
      go_wp2
      go_ret
      refine ⟨rInt hk0.symm, by rw [h0]; exact HR.out, ⟨z, HZ.out, HZW.out, by rw [h0]; simpa using HRel.out⟩, HB.out⟩
    · have hk0 : (((m : Nat) : Int) == 0) = false := by simp; omega
      obtain ⟨bp, op, rfl, hbp, _⟩ := HP.out.at_ (by omega)
      have hAb := hA (by omega)
      obtain ⟨s, hs⟩ : ∃ s, (f + l.length) % N = s := ⟨_, rfl⟩
      have hsN : s < N := by rw [← hs]; exact Nat.mod_lt _ (by omega)
      have HS := hid hs; clear hs
      obtain ⟨d, hd⟩ : ∃ d, d = min m (N - s) := ⟨_, rfl⟩
      have HD := hid hd; clear hd
      have HSL : Hid ((splice z s ((p.take m).take d)).length = N) := hid (by rw [length_splice _ _ _ (by rw [List.length_take, List.length_take]; have := HRel.out.len; have := HD.out; omega)]; exact HRel.out.len)
      have HRW : Hid (Rel N f (splice (splice z s ((p.take m).take d)) 0 (((p.take m).drop d).take (m - d))) (l ++ p.take m)) := hid (by
        have := HRel.out.write (p := p) (m) s d (by rw [HP.out.len]; omega) (by omega) HS.out.symm HD.out
        have e1 : (p.take (m)).take d = p.take d := by rw [List.take_take, Nat.min_eq_left (by have := HD.out; omega)]
        have e2 : ((p.take (m)).drop d).take (m - d) = (p.take (m)).drop d := List.take_of_length_le (by simp; omega)
        rw [e1, e2]; exact this)
      go_wp2_with fail
      refine wp_region_noPanic ?_
      refine rgn.regionT (R := Only [b]) (by kernel_rfl) (Only.refl [b]) (fun _ _ _ => Only.trans) (fun _ _ _ _ _ h => h) (.y 0 (.y 1 (.y 2 (.y 3 (.y 4 (.y 5 (.y 6 (.y 7 (.y 8 (.y 11 (.y 12 (.y 13 (.e 9 (.y 10 (.e 14 (.e 15 .z)))))))))))))))) (by kernel_rfl) (fun W hWd => ?_)
      have HWd := hid hWd; clear hWd
      have HR := hid (HR.out.eq_drew HWd.out); have HZ := hid (HZ.out.eq_drew HWd.out); have HP : Hid (Rd .u8 W (some ⟨bp, op, none⟩) n p) := hid (by have := HWd.out; subst this; exact HP.out.drew); have HB := hid (HB.out.eq_drew HWd.out)
      have c0 : W.cell? ⟨g, 0, none⟩ = some (.slice (some ⟨b, 0, none⟩) N N) := HR.out.cell 0
      have c1 : W.cell? ⟨g, 1, none⟩ = some (.int .i64 f) := HR.out.cell 1
      have c2 : W.cell? ⟨g, 2, none⟩ = some (.int .i64 (l.length : Nat)) := HR.out.cell 2
      refine rgn.Walk.ys (v := ?_) rfl rfl rfl ?_ ?_
      rotate_left 1
      · intro W' hW'
        go_simp
        try with_reducible rfl
      try simp only [Act.put, List.setIfInBounds_toArray, List.set_cons_zero, List.set_cons_succ]
      refine rgn.Walk.ys (v := ?_) rfl rfl rfl ?_ ?_
      rotate_left 1
      · intro W' hW'
        go_simp
        try with_reducible rfl
      try simp only [Act.put, List.setIfInBounds_toArray, List.set_cons_zero, List.set_cons_succ]
      refine rgn.Walk.ys (v := ?_) rfl rfl rfl ?_ ?_
      rotate_left 1
      · intro W' hW'
        go_simp
        try with_reducible rfl
      try simp only [Act.put, List.setIfInBounds_toArray, List.set_cons_zero, List.set_cons_succ]
      refine rgn.Walk.ys (v := ?_) rfl rfl rfl ?_ ?_
      rotate_left 1
      · intro W' hW'
        have q0 := hW'.keepN (p := ⟨g, 0, none⟩) c0 (by simp; exact hgb)
        go_simp
        try with_reducible rfl
      try simp only [Act.put, List.setIfInBounds_toArray, List.set_cons_zero, List.set_cons_succ]
      refine rgn.Walk.ys (v := ?_) rfl rfl rfl ?_ ?_
      rotate_left 1
      · intro W' hW'
        go_simp
        try with_reducible rfl
      try simp only [Act.put, List.setIfInBounds_toArray, List.set_cons_zero, List.set_cons_succ]
      refine rgn.Walk.ys (v := ?_) rfl rfl rfl ?_ ?_
      rotate_left 1
      · intro W' hW'
        go_simp
        try with_reducible rfl
      try simp only [Act.put, List.setIfInBounds_toArray, List.set_cons_zero, List.set_cons_succ]
      refine rgn.Walk.ys (v := ?_) rfl rfl rfl ?_ ?_
      rotate_left 1
      · intro W' hW'
        go_simp
        try with_reducible rfl
      try simp only [Act.put, List.setIfInBounds_toArray, List.set_cons_zero, List.set_cons_succ]
      refine rgn.Walk.ys (v := ?_) rfl rfl rfl ?_ ?_
      rotate_left 1
      · intro W' hW'
        go_simp
        try with_reducible rfl
      try simp only [Act.put, List.setIfInBounds_toArray, List.set_cons_zero, List.set_cons_succ]
      refine rgn.Walk.ys (v := ?_) rfl rfl rfl ?_ ?_
      rotate_left 1
      · intro W' hW'
        have q0 := hW'.keepN (p := ⟨g, 2, none⟩) c2 (by simp; exact hgb)
        go_simp
        try with_reducible rfl
      try simp only [Act.put, List.setIfInBounds_toArray, List.set_cons_zero, List.set_cons_succ]
      refine rgn.Walk.ys (v := ?_) rfl rfl rfl ?_ ?_
      rotate_left 1
      · intro W' hW'
        go_simp
        try with_reducible rfl
      try simp only [Act.put, List.setIfInBounds_toArray, List.set_cons_zero, List.set_cons_succ]
      refine rgn.Walk.ys (v := ?_) rfl rfl rfl ?_ ?_
      rotate_left 1
      · intro W' hW'
        go_simp
        try with_reducible rfl
      try simp only [Act.put, List.setIfInBounds_toArray, List.set_cons_zero, List.set_cons_succ]
      refine rgn.Walk.ys (v := ?_) rfl rfl rfl ?_ ?_
      rotate_left 1
      · intro W' hW'
        have hkc : m ≤ c := by omega
        go_simp
        try with_reducible rfl
      try simp only [Act.put, List.setIfInBounds_toArray, List.set_cons_zero, List.set_cons_succ]
      refine rgn.Walk.es ?_
      refine rgn.stepE rfl rfl (fun K hK => ?_)
      go_simp
      refine (place _ g b N f l.length l.length HR.out hN hf (by omega)).mono ?_
      rintro x w3 ⟨rfl, q, rfl⟩
      refine hK _ _ ((Only.refl _ _).drewN q) ?_
      clear hK K
      try simp only [Act.put, List.setIfInBounds_toArray, List.set_cons_zero, List.set_cons_succ]
      have HR := hid (HR.out.drewN q); have HZ := hid (HZ.out.drewN q); have HP := hid (HP.out.drewN q); have HB := hid (HB.out.drewN q)
      clear c0 c1 c2
      rw [HS.out]
      refine rgn.Walk.ys (v := ?_) rfl rfl rfl ?_ ?_
      rotate_left 1
      · intro W' hW'
        go_simp
        rw [if_pos (by omega : s ≤ N), if_neg (by omega : ¬ N = s)]
        try with_reducible rfl
      try simp only [Act.put, List.setIfInBounds_toArray, List.set_cons_zero, List.set_cons_succ]
      refine rgn.Walk.es ?_
      refine rgn.stepE rfl rfl (fun K hK => ?_)
      refine opCopy rfl _ _ _ _ rfl 5 Try.underlying32 (by kernel_rfl) (some ⟨b, s, none⟩) (some ⟨bp, op, none⟩) (N - s) (N - s) m c (by go_simp <;> first | rfl | (congr 1 <;> omega)) (by go_simp <;> first | rfl | (congr 1 <;> omega)) b s z 5 HZ.out (p.take m) (HP.out.take m (by omega)) d HD.out (fun _ => rfl) (by have := HRel.out.len; have := HD.out; omega) ?_
      intro w4 hz4 o4
      refine hK _ _ o4 ?_
      clear hK K
      try simp only [Act.put, List.setIfInBounds_toArray, List.set_cons_zero, List.set_cons_succ]
      have HZ := hz4; have HR := hid (HR.out.only o4 (by simp; exact hgb)); have HP := hid (HP.out.only o4 (by intro bb off e _ hm; simp at hm; injection e with e; injection e with e1 e2; exact (hAb _ _ rfl).2 (e1.trans hm))); have HB := hid (HB.out.trans (o4.more (by simp)))
      clear o4 hz4
      refine rgn.Walk.es ?_
      refine rgn.stepE rfl rfl (fun K hK => ?_)
      go_simp
      refine hK _ _ ((Only.refl [b]) _) ?_
      clear hK K
      try simp only [Act.put, List.setIfInBounds_toArray, List.set_cons_zero, List.set_cons_succ]
      refine rgn.Walk.zs (NoPanic.normal ?_)
      go_wp2_with fail
      have HPD : Hid (∀ W : World, Rd .u8 W (some ⟨bp, op, none⟩) n p → Rd .u8 W (if c = d then some ⟨bp, op, none⟩ else some ⟨bp, op + d, none⟩) (m - d) ((p.take (m)).drop d)) := hid (fun W h => by
        have hd2 := HD.out
        split
        · rw [show m - d = 0 from by omega, List.drop_eq_nil_of_le (by rw [List.length_take]; omega)]; exact Rd.nil _ _ _
        · exact (h.take (m) (by omega)).drop d (by omega))
      refine wp_region_noPanic ?_
      refine rgn.regionT (R := Only [b]) (by kernel_rfl) (Only.refl [b]) (fun _ _ _ => Only.trans) (fun _ _ _ _ _ h => h) (.y 0 (.y 1 (.y 2 (.y 3 (.y 4 (.y 5 (.y 6 (.y 7 (.e 8 .z))))))))) (by kernel_rfl) (fun W hWd => ?_)
      have HWd := hid hWd; clear hWd
      have HR := hid (HR.out.eq_drew HWd.out); have HZ := hid (HZ.out.eq_drew HWd.out); have HP : Hid (Rd .u8 W (some ⟨bp, op, none⟩) n p) := hid (by have := HWd.out; subst this; exact HP.out.drew); have HB := hid (HB.out.eq_drew HWd.out)
      have c0 : W.cell? ⟨g, 0, none⟩ = some (.slice (some ⟨b, 0, none⟩) N N) := HR.out.cell 0
      have c1 : W.cell? ⟨g, 1, none⟩ = some (.int .i64 f) := HR.out.cell 1
      have c2 : W.cell? ⟨g, 2, none⟩ = some (.int .i64 (l.length : Nat)) := HR.out.cell 2
      refine rgn.Walk.ys (v := ?_) rfl rfl rfl ?_ ?_
      rotate_left 1
      · intro W' hW'
        go_simp
        try with_reducible rfl
      try simp only [Act.put, List.setIfInBounds_toArray, List.set_cons_zero, List.set_cons_succ]
      refine rgn.Walk.ys (v := ?_) rfl rfl rfl ?_ ?_
      rotate_left 1
      · intro W' hW'
        go_simp
        try with_reducible rfl
      try simp only [Act.put, List.setIfInBounds_toArray, List.set_cons_zero, List.set_cons_succ]
      refine rgn.Walk.ys (v := ?_) rfl rfl rfl ?_ ?_
      rotate_left 1
      · intro W' hW'
        go_simp
        try with_reducible rfl
      try simp only [Act.put, List.setIfInBounds_toArray, List.set_cons_zero, List.set_cons_succ]
      refine rgn.Walk.ys (v := ?_) rfl rfl rfl ?_ ?_
      rotate_left 1
      · intro W' hW'
        have q0 := hW'.keepN (p := ⟨g, 0, none⟩) c0 (by simp; exact hgb)
        go_simp
        try with_reducible rfl
      try simp only [Act.put, List.setIfInBounds_toArray, List.set_cons_zero, List.set_cons_succ]
      refine rgn.Walk.ys (v := ?_) rfl rfl rfl ?_ ?_
      rotate_left 1
      · intro W' hW'
        go_simp
        try with_reducible rfl
      try simp only [Act.put, List.setIfInBounds_toArray, List.set_cons_zero, List.set_cons_succ]
      refine rgn.Walk.ys (v := ?_) rfl rfl rfl ?_ ?_
      rotate_left 1
      · intro W' hW'
        go_simp
        try with_reducible rfl
      try simp only [Act.put, List.setIfInBounds_toArray, List.set_cons_zero, List.set_cons_succ]
      refine rgn.Walk.ys (v := ?_) rfl rfl rfl ?_ ?_
      rotate_left 1
      · intro W' hW'
        go_simp
        try with_reducible rfl
      try simp only [Act.put, List.setIfInBounds_toArray, List.set_cons_zero, List.set_cons_succ]
      refine rgn.Walk.ys (v := ?_) rfl rfl rfl ?_ ?_
      rotate_left 1
      · intro W' hW'
        have hd2 : d ≤ m := by have := HD.out; omega
        go_simp
        try with_reducible rfl
      try simp only [Act.put, List.setIfInBounds_toArray, List.set_cons_zero, List.set_cons_succ]
      refine rgn.Walk.es ?_
      refine rgn.stepE rfl rfl (fun K hK => ?_)
      refine opCopy rfl _ _ _ _ rfl 5 Try.underlying32 (by kernel_rfl) (some ⟨b, 0, none⟩) (if c = d then some ⟨bp, op, none⟩ else some ⟨bp, op + d, none⟩) N N (m - d) (c - d) (by go_simp <;> first | rfl | (congr 1 <;> omega)) (by go_simp <;> first | rfl | (congr 1 <;> omega)) b 0 _ 5 HZ.out ((p.take (m)).drop d) (HPD.out _ HP.out) (m - d) (by have := HD.out; omega) (fun _ => rfl) (by rw [HSL.out]; omega) ?_
      intro w4 hz4 o4
      refine hK _ _ o4 ?_
      clear hK K
      try simp only [Act.put, List.setIfInBounds_toArray, List.set_cons_zero, List.set_cons_succ]
      have HZ := hz4; have HR := hid (HR.out.only o4 (by simp; exact hgb)); have HB := hid (HB.out.trans (o4.more (by simp)))
      clear o4 hz4
      refine rgn.Walk.zs (NoPanic.normal ?_)
      clear c0 c1 c2
      have c2 : w4.cell? ⟨g, 2, none⟩ = some (.int .i64 (l.length : Nat)) := HR.out.cell 2
      have f2 := HR.out.frozen 2
      have HWZ := hid (splice_mem (off := 0) (splice_mem (off := s) HZW.out (fun x hx => HP.out.wf x (List.mem_of_mem_take (List.mem_of_mem_take hx)))) (fun x hx => HP.out.wf x (List.mem_of_mem_take (List.mem_of_mem_drop (List.mem_of_mem_take hx)))) : ∀ x ∈ splice (splice z s ((p.take (m)).take d)) 0 (((p.take (m)).drop d).take (m - d)), (Lit.int .u8 x).wf = true)
      go_wp2
      all_goals
       go_ret
       refine ⟨rfl, ?_, ⟨_, HZ.out.far (p := ⟨g, 2, none⟩) (Ne.symm hgb) _, HWZ.out, HRW.out⟩, HB.out.setCell (p := ⟨g, 2, none⟩) (.inl (by simp)) _⟩
       have := HR.out.set 2 (.int .i64 ((l.length : Nat) + ((m : Nat) : Int)))
       simpa [RObj] using this
end Go.Proofs.Ytbjmckmajpdglaa.rng
