/-
  Chapter 11 (udp): a datagram that is read by other addresses than it was written for, on sums and by a walk of the law's text. Conditions: none but those typed.
-/
import Derived.Test.YtnhakcgkhhficaaUdpIa
namespace Go.Proofs.Ytnhakcgkhhficaa.udp
set_option linter.unusedVariables false
set_option linter.unusedSimpArgs false
open Go.ChangeShapes Go.WideShapes Go.ChangeAt Go.RowKit Go.IntWalk Go.Lib
theorem mods (a b c d : Int) : ((a % 65535 + b % 65535) % 65535 = (c % 65535 + d % 65535) % 65535) ↔ (a + b - (c + d)) % 65535 = 0 := by
  rw [← Int.add_emod, ← Int.add_emod]
  omega
theorem w4s (f t fr to : Int) : W4 f t - W4 fr to = (f / 65536 + f % 65536) + (t / 65536 + t % 65536) - ((fr / 65536 + fr % 65536) + (to / 65536 + to % 65536)) := by
  unfold W4
  generalize f / 65536 = f1
  generalize f % 65536 = f2
  generalize t / 65536 = t1
  generalize t % 65536 = t2
  omega
theorem mb (a : Int) : 0 ≤ a % 65535 ∧ a % 65535 ≤ 65534 := by omega
set_option maxRecDepth 100000 in
set_option maxHeartbeats 1000000 in
theorem whom (w : World) (fr fp to tp f t : Int) (A : Option Addr) (n c : Nat) (l : List Int) (hl : Rd .u8 w A n l) (hc0 : A = none → c = 0) (hnc : n ≤ c) (h1 : 0 ≤ fr ∧ fr ≤ 4294967295) (h2 : 0 ≤ to ∧ to ≤ 4294967295) (h3 : 0 ≤ f ∧ f ≤ 4294967295) (h4 : 0 ≤ t ∧ t ≤ 4294967295) :
    Calls Try.prog 12 #[.agg #[.int .u32 fr, .int .i64 fp, .int .u32 to, .int .i64 tp, .slice A n c], .int .u32 f, .int .u32 t] w (fun e w' => e = .returned (.bool true) ∧ Only [] w w') := by
  have OB : Hid (Ob (w.alloc (.cells #[.int .u32 fr, .int .i64 fp, .int .u32 to, .int .i64 tp, .slice A n c] 32)) w.heap.size 32 #[.int .u32 fr, .int .i64 fp, .int .u32 to, .int .i64 tp, .slice A n c]) := hid (Ob.new _ _ _)
  have HB : Hid (Only [] w (w.alloc (.cells #[.int .u32 fr, .int .i64 fp, .int .u32 to, .int .i64 tp, .slice A n c] 32))) := hid ((Only.refl [] w).alloc _)
  have HLen := hid hl.len
  have HL := hid hl; clear hl
  have HC := hid hc0; clear hc0
  by_cases hn : n > 2000
  · have hn' : (n : Int) > 2000 := by omega
    go_enter Try.func12, Try.ntmps12
    go_wp2
    go_ret
    exact ⟨rfl, HB.out⟩
  · have hn' : ¬ (n : Int) > 2000 := by omega
    obtain ⟨er, ls, hE⟩ := says_any fr fp to tp l n
    have HE := hid hE
    go_enter Try.func12, Try.ntmps12
    go_wp2_with (first
      | (refine wp_loadOb rfl 32 (.tmp 3) rfl w.heap.size rfl _ 32 OB.out Try.underlying32 rfl (by kernel_rfl) ?_; try simp only [Act.put, List.setIfInBounds_toArray, List.set_cons_zero, List.set_cons_succ])
      | fail)
    refine (encAny _ fr fp to tp A n c l er ls (HL.out.only_nil HB.out) HC.out HE.out).mono ?_
    rintro x w2 ⟨v2, rfl, hv2, o2⟩
    have OB := hid (OB.out.only o2 (by simp)); have HB := hid (HB.out.trans o2)
    obtain ⟨A2, cap2, ev2, hc2, hm2, r2, hb2⟩ := hv2.slice
    have N2 := hid (own_cap2 hv2 ev2)
    have R2 := hid r2
    subst ev2
    clear hv2 o2 r2 hb2
    by_cases he : er = 0
    · have hgood : Good fp tp ∧ ls = encU fr fp to tp l := by
        cases hE with
        | bad h => cases he
        | long hg h => cases he
        | ok hg h => exact ⟨hg, rfl⟩
      obtain ⟨hg, hls⟩ := hgood
      subst he
      have HWF : Hid (∀ z ∈ l, 0 ≤ z ∧ z ≤ 255) := hid (fun z hz => u8Bd (HL.out.wf z hz))
      have HD := hid (whomE fr fp to tp f t l (by rw [HLen.out]; omega) hg HWF.out h1 h2 h3 h4)
      rw [← hls] at HD
      have HLS : Hid (ls.length = 8 + n) := hid (by rw [hls]; unfold encU; rw [body_len, HLen.out])
      have HLD : Hid (dE f t ls = 0 → dD f t ls = l) := hid (fun h0 => by
        unfold dD
        rw [if_pos h0, hls]
        unfold encU lenU
        have : ref.get2 (body fp tp (fixU (sumU fr fp to tp l)) l) 4 = 8 + (l.length : Int) := by have := HLen.out; simp [ref.get2, body]; omega
        rw [this]
        have h9 : (8 + (l.length : Int)).toNat - 8 = l.length := by omega
        rw [h9]
        simp [body])
      clear hls hE
      go_wp2_with fail
      refine (dec1 w2 f t A2 _ cap2 ls R2.out N2.out hc2 (by rw [HLS.out]; omega)).mono ?_
      rintro x w3 ⟨v3, rfl, hv3, o3⟩
      have OB := hid (OB.out.only o3 (by simp)); have HB := hid (HB.out.trans o3)
      obtain ⟨A3, cap3, ev3, hc3, hm3, r3, hb3⟩ := hv3.slice
      subst ev3
      clear hv3 o3 hb3
      by_cases hz : (W4 f t - W4 fr to) % 65535 = 0
      · have HD0 : Hid (dE f t ls = 0) := hid (by rw [HD.out, if_pos hz])
        have HLD0 := hid (HLD.out HD0.out)
        rw [HLD0.out, HLen.out] at hc3
        have R3 : Hid (Rd .u8 w3 A3 n l) := hid (by have h9 := r3; rw [HLD0.out, HLen.out] at h9; exact h9)
        have hG : ∃ p0 p2, ∀ v, dG f t ls v = .agg #[.int .u32 f, .int .i64 p0, .int .u32 t, .int .i64 p2, v] := ⟨_, _, fun v => by unfold dG; rw [if_pos HD0.out]⟩
        obtain ⟨p0, p2, hG⟩ := hG
        rw [hG, HD0.out, HLD0.out, HLen.out]
        have OX : Hid (Ob (w3.alloc (.cells #[.int .u32 f, .int .i64 p0, .int .u32 t, .int .i64 p2, .slice A3 n cap3] 32)) w3.heap.size 32 #[.int .u32 f, .int .i64 p0, .int .u32 t, .int .i64 p2, .slice A3 n cap3]) := hid (Ob.new _ _ _)
        have oa : Only [] w3 (w3.alloc (.cells #[.int .u32 f, .int .i64 p0, .int .u32 t, .int .i64 p2, .slice A3 n cap3] 32)) := (Only.refl _ _).alloc _
        have OB := hid (OB.out.only oa (by simp)); have HB := hid (HB.out.trans oa); have R3 := hid (R3.out.only_nil oa)
        obtain ⟨xf, hxf⟩ : ∃ x, (f / 65536 + f % 65536) % 65535 = x := ⟨_, rfl⟩
        obtain ⟨xt, hxt⟩ : ∃ x, (t / 65536 + t % 65536) % 65535 = x := ⟨_, rfl⟩
        obtain ⟨xfr, hxfr⟩ : ∃ x, (fr / 65536 + fr % 65536) % 65535 = x := ⟨_, rfl⟩
        obtain ⟨xto, hxto⟩ : ∃ x, (to / 65536 + to % 65536) % 65535 = x := ⟨_, rfl⟩
        have heq : ((xf + xt) % 65535 == (xfr + xto) % 65535) = true := by
          rw [← hxf, ← hxt, ← hxfr, ← hxto]; simp only [beq_iff_eq]; rw [mods]; rw [w4s] at hz; exact hz
        have hxb : (0 ≤ xf ∧ xf ≤ 65534) ∧ (0 ≤ xt ∧ xt ≤ 65534) ∧ (0 ≤ xfr ∧ xfr ≤ 65534) ∧ (0 ≤ xto ∧ xto ≤ 65534) := ⟨by rw [← hxf]; exact mb _, by rw [← hxt]; exact mb _, by rw [← hxfr]; exact mb _, by rw [← hxto]; exact mb _⟩
        obtain ⟨hx1, hx2, hx3, hx4⟩ := hxb
        have HXf := hid hxf; have HXt := hid hxt; have HXfr := hid hxfr; have HXto := hid hxto
        clear hxf hxt hxfr hxto
        clear oa r3 hG hz HD HLD
        go_wp2_with fail
        refine wp_region_noPanic ?_
        refine rgn.regionT (R := Only []) (by kernel_rfl) (Only.refl []) (fun _ _ _ => Only.trans) (fun _ _ _ _ _ h => h) (.y 0 (.y 1 (.y 3 (.y 4 (.y 8 (.y 9 (.y 10 (.y 12 (.y 13 (.y 14 (.e 2 (.e 5 (.y 6 (.y 7 (.e 11 (.e 15 (.y 16 (.y 17 (.y 18 (.e 19 .z)))))))))))))))))))) (by kernel_rfl) (fun W hWd => ?_)
        have HWd := hid hWd; clear hWd
        have OB := hid (OB.out.eq_drew HWd.out); have OX := hid (OX.out.eq_drew HWd.out); have HB := hid (HB.out.eq_drew HWd.out)
        have R3 := hid (by have h9 := R3.out; rw [HWd.out]; exact h9.drew : Rd .u8 W A3 _ _)
        refine rgn.Walk.ys (v := ?_) rfl rfl rfl ?_ ?_
        rotate_left 1
        · intro W' hW'
          go_simp
          try with_reducible rfl
        try simp only [Act.put, List.setIfInBounds_toArray, List.set_cons_zero, List.set_cons_succ]
        refine rgn.Walk.ys (v := ?_) rfl rfl rfl ?_ ?_
        rotate_left 1
        · intro W' hW'
          go_simp
          try with_reducible rfl
        try simp only [Act.put, List.setIfInBounds_toArray, List.set_cons_zero, List.set_cons_succ]
        refine rgn.Walk.ys (v := ?_) rfl rfl rfl ?_ ?_
        rotate_left 1
        · intro W' hW'
          go_simp
          try with_reducible rfl
        try simp only [Act.put, List.setIfInBounds_toArray, List.set_cons_zero, List.set_cons_succ]
        refine rgn.Walk.ys (v := ?_) rfl rfl rfl ?_ ?_
        rotate_left 1
        · intro W' hW'
          go_simp
          try with_reducible rfl
        try simp only [Act.put, List.setIfInBounds_toArray, List.set_cons_zero, List.set_cons_succ]
        refine rgn.Walk.ys (v := ?_) rfl rfl rfl ?_ ?_
        rotate_left 1
        · intro W' hW'
          go_simp
          try with_reducible rfl
        try simp only [Act.put, List.setIfInBounds_toArray, List.set_cons_zero, List.set_cons_succ]
        refine rgn.Walk.ys (v := ?_) rfl rfl rfl ?_ ?_
        rotate_left 1
        · intro W' hW'
          go_simp
          try with_reducible rfl
        try simp only [Act.put, List.setIfInBounds_toArray, List.set_cons_zero, List.set_cons_succ]
        refine rgn.Walk.ys (v := ?_) rfl rfl rfl ?_ ?_
        rotate_left 1
        · intro W' hW'
          have q0 := (show W'.cell? ⟨w.heap.size, 0, none⟩ = some (.int .u32 fr) from (OB.out.only hW' (by simp)).cell 0)
          go_simp
          try with_reducible rfl
        try simp only [Act.put, List.setIfInBounds_toArray, List.set_cons_zero, List.set_cons_succ]
        refine rgn.Walk.ys (v := ?_) rfl rfl rfl ?_ ?_
        rotate_left 1
        · intro W' hW'
          go_simp
          try with_reducible rfl
        try simp only [Act.put, List.setIfInBounds_toArray, List.set_cons_zero, List.set_cons_succ]
        refine rgn.Walk.ys (v := ?_) rfl rfl rfl ?_ ?_
        rotate_left 1
        · intro W' hW'
          go_simp
          try with_reducible rfl
        try simp only [Act.put, List.setIfInBounds_toArray, List.set_cons_zero, List.set_cons_succ]
        refine rgn.Walk.ys (v := ?_) rfl rfl rfl ?_ ?_
        rotate_left 1
        · intro W' hW'
          have q0 := (show W'.cell? ⟨w.heap.size, 2, none⟩ = some (.int .u32 to) from (OB.out.only hW' (by simp)).cell 2)
          go_simp
          try with_reducible rfl
        try simp only [Act.put, List.setIfInBounds_toArray, List.set_cons_zero, List.set_cons_succ]
        refine rgn.Walk.es ?_
        refine rgn.stepE rfl rfl (fun K hK => ?_)
        go_simp
        refine (words1 _ f h3).mono ?_
        rw [HXf.out]
        rintro x wq ⟨rfl, oq⟩
        refine hK _ _ oq ?_
        clear hK K
        try simp only [Act.put, List.setIfInBounds_toArray, List.set_cons_zero, List.set_cons_succ]
        have OB := hid (OB.out.only oq (by simp)); have OX := hid (OX.out.only oq (by simp)); have HB := hid (HB.out.trans oq); have R3 := hid (R3.out.only_nil oq)
        clear oq
        refine rgn.Walk.es ?_
        refine rgn.stepE rfl rfl (fun K hK => ?_)
        go_simp
        refine (words1 _ t h4).mono ?_
        rw [HXt.out]
        rintro x wq ⟨rfl, oq⟩
        refine hK _ _ oq ?_
        clear hK K
        try simp only [Act.put, List.setIfInBounds_toArray, List.set_cons_zero, List.set_cons_succ]
        have OB := hid (OB.out.only oq (by simp)); have OX := hid (OX.out.only oq (by simp)); have HB := hid (HB.out.trans oq); have R3 := hid (R3.out.only_nil oq)
        clear oq
        refine rgn.Walk.ys (v := ?_) rfl rfl rfl ?_ ?_
        rotate_left 1
        · intro W' hW'
          go_simp
          try rw [i64_in _ (by omega)]
          try with_reducible rfl
        try simp only [Act.put, List.setIfInBounds_toArray, List.set_cons_zero, List.set_cons_succ]
        refine rgn.Walk.ys (v := ?_) rfl rfl rfl ?_ ?_
        rotate_left 1
        · intro W' hW'
          go_simp
          try with_reducible rfl
        try simp only [Act.put, List.setIfInBounds_toArray, List.set_cons_zero, List.set_cons_succ]
        refine rgn.Walk.es ?_
        refine rgn.stepE rfl rfl (fun K hK => ?_)
        go_simp
        refine (words1 _ fr h1).mono ?_
        rw [HXfr.out]
        rintro x wq ⟨rfl, oq⟩
        refine hK _ _ oq ?_
        clear hK K
        try simp only [Act.put, List.setIfInBounds_toArray, List.set_cons_zero, List.set_cons_succ]
        have OB := hid (OB.out.only oq (by simp)); have OX := hid (OX.out.only oq (by simp)); have HB := hid (HB.out.trans oq); have R3 := hid (R3.out.only_nil oq)
        clear oq
        refine rgn.Walk.es ?_
        refine rgn.stepE rfl rfl (fun K hK => ?_)
        go_simp
        refine (words1 _ to h2).mono ?_
        rw [HXto.out]
        rintro x wq ⟨rfl, oq⟩
        refine hK _ _ oq ?_
        clear hK K
        try simp only [Act.put, List.setIfInBounds_toArray, List.set_cons_zero, List.set_cons_succ]
        have OB := hid (OB.out.only oq (by simp)); have OX := hid (OX.out.only oq (by simp)); have HB := hid (HB.out.trans oq); have R3 := hid (R3.out.only_nil oq)
        clear oq
        refine rgn.Walk.ys (v := ?_) rfl rfl rfl ?_ ?_
        rotate_left 1
        · intro W' hW'
          go_simp
          try rw [i64_in _ (by omega)]
          try with_reducible rfl
        try simp only [Act.put, List.setIfInBounds_toArray, List.set_cons_zero, List.set_cons_succ]
        refine rgn.Walk.ys (v := ?_) rfl rfl rfl ?_ ?_
        rotate_left 1
        · intro W' hW'
          go_simp
          try with_reducible rfl
        try simp only [Act.put, List.setIfInBounds_toArray, List.set_cons_zero, List.set_cons_succ]
        refine rgn.Walk.ys (v := ?_) rfl rfl rfl ?_ ?_
        rotate_left 1
        · intro W' hW'
          go_simp
          try with_reducible rfl
        try simp only [Act.put, List.setIfInBounds_toArray, List.set_cons_zero, List.set_cons_succ]
        refine rgn.Walk.es ?_
        refine rgn.stepE rfl rfl (fun K hK => ?_)
        go_simp
        refine hK _ _ ((Only.refl []) _) ?_
        clear hK K
        try simp only [Act.put, List.setIfInBounds_toArray, List.set_cons_zero, List.set_cons_succ]
        refine rgn.Walk.zs (NoPanic.normal ?_)
        have k4 := OB.out.cell 4
        have q0 := OX.out.cell 0; have q2 := OX.out.cell 2; have q4 := OX.out.cell 4
        go_wp2_with fail
        refine (callsOnly (hlp.same _ A3 A n n cap3 c l l R3.out (HL.out.only_nil HB.out) (by omega) (by omega))).mono ?_
        rintro x w8 ⟨rfl, o8⟩
        rw [show decide (l = l) = true from by simp]
        have HB := hid (HB.out.trans o8); clear o8
        go_wp2_with fail
        refine (ev.known _).mono ?_
        rintro x w9 ⟨rfl, o9⟩
        have HB := hid (HB.out.trans o9); clear o9
        go_wp2
        go_ret
        exact ⟨rfl, HB.out⟩
      · have HD0 : Hid (dE f t ls = 4) := hid (by rw [HD.out, if_neg hz])
        have HLD0 : Hid (dD f t ls = []) := hid (by unfold dD; rw [if_neg (by rw [HD0.out]; decide)])
        have R3 : Hid (Rd .u8 w3 A3 0 []) := hid (Rd.nil _ _ _)
        have hG : ∀ v, dG f t ls v = .agg #[.int .u32 0, .int .i64 0, .int .u32 0, .int .i64 0, v] := fun v => by unfold dG; rw [if_neg (by rw [HD0.out]; decide)]
        rw [hG, HD0.out, HLD0.out]
        have OX : Hid (Ob (w3.alloc (.cells #[.int .u32 0, .int .i64 0, .int .u32 0, .int .i64 0, .slice A3 0 cap3] 32)) w3.heap.size 32 #[.int .u32 0, .int .i64 0, .int .u32 0, .int .i64 0, .slice A3 0 cap3]) := hid (Ob.new _ _ _)
        have oa : Only [] w3 (w3.alloc (.cells #[.int .u32 0, .int .i64 0, .int .u32 0, .int .i64 0, .slice A3 0 cap3] 32)) := (Only.refl _ _).alloc _
        have OB := hid (OB.out.only oa (by simp)); have HB := hid (HB.out.trans oa); have R3 := hid (R3.out.only_nil oa)
        obtain ⟨xf, hxf⟩ : ∃ x, (f / 65536 + f % 65536) % 65535 = x := ⟨_, rfl⟩
        obtain ⟨xt, hxt⟩ : ∃ x, (t / 65536 + t % 65536) % 65535 = x := ⟨_, rfl⟩
        obtain ⟨xfr, hxfr⟩ : ∃ x, (fr / 65536 + fr % 65536) % 65535 = x := ⟨_, rfl⟩
        obtain ⟨xto, hxto⟩ : ∃ x, (to / 65536 + to % 65536) % 65535 = x := ⟨_, rfl⟩
        have heq : ((xf + xt) % 65535 == (xfr + xto) % 65535) = false := by
          rw [← hxf, ← hxt, ← hxfr, ← hxto]; simp only [beq_eq_false_iff_ne, ne_eq]; rw [mods]; rw [w4s] at hz; exact hz
        have hxb : (0 ≤ xf ∧ xf ≤ 65534) ∧ (0 ≤ xt ∧ xt ≤ 65534) ∧ (0 ≤ xfr ∧ xfr ≤ 65534) ∧ (0 ≤ xto ∧ xto ≤ 65534) := ⟨by rw [← hxf]; exact mb _, by rw [← hxt]; exact mb _, by rw [← hxfr]; exact mb _, by rw [← hxto]; exact mb _⟩
        obtain ⟨hx1, hx2, hx3, hx4⟩ := hxb
        have HXf := hid hxf; have HXt := hid hxt; have HXfr := hid hxfr; have HXto := hid hxto
        clear hxf hxt hxfr hxto
        clear oa r3 hG hz HD HLD
        go_wp2_with fail
        refine wp_region_noPanic ?_
        refine rgn.regionT (R := Only []) (by kernel_rfl) (Only.refl []) (fun _ _ _ => Only.trans) (fun _ _ _ _ _ h => h) (.y 0 (.y 1 (.y 3 (.y 4 (.y 8 (.y 9 (.y 10 (.y 12 (.y 13 (.y 14 (.e 2 (.e 5 (.y 6 (.y 7 (.e 11 (.e 15 (.y 16 (.y 17 (.y 18 (.e 19 .z)))))))))))))))))))) (by kernel_rfl) (fun W hWd => ?_)
        have HWd := hid hWd; clear hWd
        have OB := hid (OB.out.eq_drew HWd.out); have OX := hid (OX.out.eq_drew HWd.out); have HB := hid (HB.out.eq_drew HWd.out)
        have R3 := hid (by have h9 := R3.out; rw [HWd.out]; exact h9.drew : Rd .u8 W A3 _ _)
        refine rgn.Walk.ys (v := ?_) rfl rfl rfl ?_ ?_
        rotate_left 1
        · intro W' hW'
          go_simp
          try with_reducible rfl
        try simp only [Act.put, List.setIfInBounds_toArray, List.set_cons_zero, List.set_cons_succ]
        refine rgn.Walk.ys (v := ?_) rfl rfl rfl ?_ ?_
        rotate_left 1
        · intro W' hW'
          go_simp
          try with_reducible rfl
        try simp only [Act.put, List.setIfInBounds_toArray, List.set_cons_zero, List.set_cons_succ]
        refine rgn.Walk.ys (v := ?_) rfl rfl rfl ?_ ?_
        rotate_left 1
        · intro W' hW'
          go_simp
          try with_reducible rfl
        try simp only [Act.put, List.setIfInBounds_toArray, List.set_cons_zero, List.set_cons_succ]
        refine rgn.Walk.ys (v := ?_) rfl rfl rfl ?_ ?_
        rotate_left 1
        · intro W' hW'
          go_simp
          try with_reducible rfl
        try simp only [Act.put, List.setIfInBounds_toArray, List.set_cons_zero, List.set_cons_succ]
        refine rgn.Walk.ys (v := ?_) rfl rfl rfl ?_ ?_
        rotate_left 1
        · intro W' hW'
          go_simp
          try with_reducible rfl
        try simp only [Act.put, List.setIfInBounds_toArray, List.set_cons_zero, List.set_cons_succ]
        refine rgn.Walk.ys (v := ?_) rfl rfl rfl ?_ ?_
        rotate_left 1
        · intro W' hW'
          go_simp
          try with_reducible rfl
        try simp only [Act.put, List.setIfInBounds_toArray, List.set_cons_zero, List.set_cons_succ]
        refine rgn.Walk.ys (v := ?_) rfl rfl rfl ?_ ?_
        rotate_left 1
        · intro W' hW'
          have q0 := (show W'.cell? ⟨w.heap.size, 0, none⟩ = some (.int .u32 fr) from (OB.out.only hW' (by simp)).cell 0)
          go_simp
          try with_reducible rfl
        try simp only [Act.put, List.setIfInBounds_toArray, List.set_cons_zero, List.set_cons_succ]
        refine rgn.Walk.ys (v := ?_) rfl rfl rfl ?_ ?_
        rotate_left 1
        · intro W' hW'
          go_simp
          try with_reducible rfl
        try simp only [Act.put, List.setIfInBounds_toArray, List.set_cons_zero, List.set_cons_succ]
        refine rgn.Walk.ys (v := ?_) rfl rfl rfl ?_ ?_
        rotate_left 1
        · intro W' hW'
          go_simp
          try with_reducible rfl
        try simp only [Act.put, List.setIfInBounds_toArray, List.set_cons_zero, List.set_cons_succ]
        refine rgn.Walk.ys (v := ?_) rfl rfl rfl ?_ ?_
        rotate_left 1
        · intro W' hW'
          have q0 := (show W'.cell? ⟨w.heap.size, 2, none⟩ = some (.int .u32 to) from (OB.out.only hW' (by simp)).cell 2)
          go_simp
          try with_reducible rfl
        try simp only [Act.put, List.setIfInBounds_toArray, List.set_cons_zero, List.set_cons_succ]
        refine rgn.Walk.es ?_
        refine rgn.stepE rfl rfl (fun K hK => ?_)
        go_simp
        refine (words1 _ f h3).mono ?_
        rw [HXf.out]
        rintro x wq ⟨rfl, oq⟩
        refine hK _ _ oq ?_
        clear hK K
        try simp only [Act.put, List.setIfInBounds_toArray, List.set_cons_zero, List.set_cons_succ]
        have OB := hid (OB.out.only oq (by simp)); have OX := hid (OX.out.only oq (by simp)); have HB := hid (HB.out.trans oq); have R3 := hid (R3.out.only_nil oq)
        clear oq
        refine rgn.Walk.es ?_
        refine rgn.stepE rfl rfl (fun K hK => ?_)
        go_simp
        refine (words1 _ t h4).mono ?_
        rw [HXt.out]
        rintro x wq ⟨rfl, oq⟩
        refine hK _ _ oq ?_
        clear hK K
        try simp only [Act.put, List.setIfInBounds_toArray, List.set_cons_zero, List.set_cons_succ]
        have OB := hid (OB.out.only oq (by simp)); have OX := hid (OX.out.only oq (by simp)); have HB := hid (HB.out.trans oq); have R3 := hid (R3.out.only_nil oq)
        clear oq
        refine rgn.Walk.ys (v := ?_) rfl rfl rfl ?_ ?_
        rotate_left 1
        · intro W' hW'
          go_simp
          try rw [i64_in _ (by omega)]
          try with_reducible rfl
        try simp only [Act.put, List.setIfInBounds_toArray, List.set_cons_zero, List.set_cons_succ]
        refine rgn.Walk.ys (v := ?_) rfl rfl rfl ?_ ?_
        rotate_left 1
        · intro W' hW'
          go_simp
          try with_reducible rfl
        try simp only [Act.put, List.setIfInBounds_toArray, List.set_cons_zero, List.set_cons_succ]
        refine rgn.Walk.es ?_
        refine rgn.stepE rfl rfl (fun K hK => ?_)
        go_simp
        refine (words1 _ fr h1).mono ?_
        rw [HXfr.out]
        rintro x wq ⟨rfl, oq⟩
        refine hK _ _ oq ?_
        clear hK K
        try simp only [Act.put, List.setIfInBounds_toArray, List.set_cons_zero, List.set_cons_succ]
        have OB := hid (OB.out.only oq (by simp)); have OX := hid (OX.out.only oq (by simp)); have HB := hid (HB.out.trans oq); have R3 := hid (R3.out.only_nil oq)
        clear oq
        refine rgn.Walk.es ?_
        refine rgn.stepE rfl rfl (fun K hK => ?_)
        go_simp
        refine (words1 _ to h2).mono ?_
        rw [HXto.out]
        rintro x wq ⟨rfl, oq⟩
        refine hK _ _ oq ?_
        clear hK K
        try simp only [Act.put, List.setIfInBounds_toArray, List.set_cons_zero, List.set_cons_succ]
        have OB := hid (OB.out.only oq (by simp)); have OX := hid (OX.out.only oq (by simp)); have HB := hid (HB.out.trans oq); have R3 := hid (R3.out.only_nil oq)
        clear oq
        refine rgn.Walk.ys (v := ?_) rfl rfl rfl ?_ ?_
        rotate_left 1
        · intro W' hW'
          go_simp
          try rw [i64_in _ (by omega)]
          try with_reducible rfl
        try simp only [Act.put, List.setIfInBounds_toArray, List.set_cons_zero, List.set_cons_succ]
        refine rgn.Walk.ys (v := ?_) rfl rfl rfl ?_ ?_
        rotate_left 1
        · intro W' hW'
          go_simp
          try with_reducible rfl
        try simp only [Act.put, List.setIfInBounds_toArray, List.set_cons_zero, List.set_cons_succ]
        refine rgn.Walk.ys (v := ?_) rfl rfl rfl ?_ ?_
        rotate_left 1
        · intro W' hW'
          go_simp
          try with_reducible rfl
        try simp only [Act.put, List.setIfInBounds_toArray, List.set_cons_zero, List.set_cons_succ]
        refine rgn.Walk.es ?_
        refine rgn.stepE rfl rfl (fun K hK => ?_)
        go_simp
        refine hK _ _ ((Only.refl []) _) ?_
        clear hK K
        try simp only [Act.put, List.setIfInBounds_toArray, List.set_cons_zero, List.set_cons_succ]
        refine rgn.Walk.zs (NoPanic.normal ?_)
        go_wp2_with fail
        refine (ev.known _).mono ?_
        rintro x w9 ⟨rfl, o9⟩
        have HB := hid (HB.out.trans o9); clear o9
        go_wp2
        go_ret
        exact ⟨rfl, HB.out⟩
    · have he1 : (er == 0) = false := by simpa using he
      have he2 : (er != 0) = true := by simpa using he
      go_wp2_with fail
      refine (ev.known _).mono ?_
      rintro x w9 ⟨rfl, o9⟩
      have HB := hid (HB.out.trans o9); clear o9
      go_wp2
      go_ret
      exact ⟨rfl, HB.out⟩
end Go.Proofs.Ytnhakcgkhhficaa.udp
