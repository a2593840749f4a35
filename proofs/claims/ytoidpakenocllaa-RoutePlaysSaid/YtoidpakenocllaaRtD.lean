/-
  Chapter 8 (route): a route taken out of a tree, by a walk of the program's text and an induction. Conditions: none but those typed.
-/
import Derived.Test.YtoidpakenocllaaRtC
namespace Go.Proofs.Ytoidpakenocllaa.rou
set_option linter.unusedVariables false
set_option linter.unusedSimpArgs false
open Go.ChangeShapes Go.WideShapes Go.ChangeAt Go.RowKit Go.IntWalk Go.Lib
def DelE (base : Nat) (v : Value) (L : List Rt) (i : Nat) (w : World) (x : Ending) (w' : World) : Prop := ∃ g cap, x = .returned (.slice (some ⟨g, 0, none⟩) (L.length - 1) cap) ∧ w'.ownsRow base 34 4 (.slice (some ⟨g, 0, none⟩) (L.length - 1) cap) (L.length - 1) (rws Rt.enc (L.take i ++ L.drop (i + 1))) ∧ v.ownBlock = some g ∧ Only v.ownBlock.toList w w'
/-- slices.Delete of one element of a row of the call's own. -/
theorem delL (w : World) (base : Nat) (v : Value) (L : List Rt) (i : Nat) (hv : w.ownsRow base 34 4 v L.length (rws Rt.enc L)) (hi : i < L.length) (hb : L.length ≤ 100000) :
    Calls Try.prog 34 #[v, .int .i64 (i : Int), .int .i64 ((i : Int) + 1)] w (DelE base v L i w) := by
  rcases hv.2 with ⟨_, h0⟩ | ⟨g, cap, cur, rfl, hbg, hh, hnc, hcm, hcs, htk⟩
  · omega
  · have hd := del1 w g L.length cap i (i + 1) cur hh (by omega) (by omega) hnc hcm hcs (by rw [htk]; exact rws_one enc_one L)
    rw [show (((i + 1 : Nat)) : Int) = (i : Int) + 1 from by omega] at hd
    refine hd.mono ?_
    rintro x w' ⟨rfl, cur', ho, hs, ht, o⟩
    have e1 : i + (L.length - (i + 1)) = L.length - 1 := by omega
    rw [e1] at ht ⊢
    refine ⟨g, cap, rfl, ⟨?_, .inr ⟨g, cap, cur', rfl, hbg, ho, by omega, hcm, hs, ?_⟩⟩, rfl, o⟩
    · rw [rws_len enc_len, List.length_append, List.length_take, List.length_drop]
      congr 1; omega
    · rw [ht, htk, rws_app]
      have hti : cur.toList.take (i * 4) = (cur.toList.take (L.length * 4)).take (i * 4) := by
        rw [List.take_take, Nat.min_eq_left (Nat.mul_le_mul_right _ (by omega))]
      rw [hti, htk, rws_take enc_len L i (by omega), rws_drop enc_len L (i + 1) (by omega)]
theorem Tr.ptr_none {t : Tr} (h : t.ptr = .pointer none) : t = .nil := by
  cases t with
  | nil => rfl
  | nd b v L l r => injection h with h; cases h
def GoneE (base : Nat) (t : Tr) (y : Rt) (p : Int) (d : Nat) (w : World) (x : Ending) (w' : World) : Prop := ∃ t', x = .returned (Tr.ptr t') ∧ Grew base w t d p w' t' ∧ (y :: t'.all).Perm t.all
/-- Where nothing is left, there is no tree. -/
theorem Grew.none {base : Nat} {w w' : World} {t t' : Tr} {d : Nat} {p : Int} (h : Grew base w t d p w' t') : Grew base w t d p w' .nil := ⟨True.intro, True.intro, by simp [Tr.bks], by simp [Tr.bks], h.only⟩
/-- One route less in the node itself. -/
theorem gone_here {base nb : Nat} {v v' : Value} {L : List Rt} {l rr : Tr} {w w7 : World} {net met : Int} {b : Nat} {y : Rt} (hy : y ∈ (Tr.nd nb v L l rr).all) (hk : y.net = net ∧ y.bits = (b : Int) ∧ y.met = met) (hm : (Tr.nd nb v L l rr).okm base w) (hw : (Tr.nd nb v L l rr).wf b (pre net b)) (hn : (Tr.nd nb v L l rr).bks.Nodup)
    (o7 : Only v.ownBlock.toList w w7) (hv : w7.ownsRow base 34 4 v' (L.length - 1) (rws Rt.enc (L.take (spot L met) ++ L.drop (spot L met + 1)))) (hb : v'.ownBlock = v.ownBlock) :
    Grew base w (Tr.nd nb v L l rr) b (pre net b) (w7.setCell ⟨nb, 2, none⟩ v') (Tr.nd nb v' (L.take (spot L met) ++ L.drop (spot L met + 1)) l rr) ∧ (y :: (Tr.nd nb v' (L.take (spot L met) ++ L.drop (spot L met + 1)) l rr).all).Perm (Tr.nd nb v L l rr).all := by
  have hlt := Tr.okm_lt hm
  have hyL := Tr.here hw hy hk.2.1
  obtain ⟨hsl, hse⟩ := spot_at hw.2.1 hyL
  rw [hk.2.2] at hsl
  have hse2 : L[spot L met] = y := by simp only [← hk.2.2]; exact hse
  obtain ⟨p1, p2⟩ := Tr.put_v (m := w.heap.size) (L' := L.take (spot L met) ++ L.drop (spot L met + 1)) hn (.inl hb) (fun k hk => (hlt k hk).2)
  obtain ⟨h0, h1, h2, h3, h4⟩ := hm
  obtain ⟨⟨n1, n2, n3⟩, n4, _, _, _⟩ := (Tr.nodup_nd ..).1 hn
  have o8 : Only (nb :: v.ownBlock.toList) w (w7.setCell ⟨nb, 2, none⟩ v') := (o7.more (fun k hk => List.mem_cons_of_mem _ hk)).setCell (p := ⟨nb, 2, none⟩) (Or.inl (List.mem_cons_self ..)) _
  have hob7 := h1.only o7 (fun h => n1 (by simpa using h))
  have hnl : ∀ k ∈ l.bks, k ∉ nb :: v.ownBlock.toList := fun k hk h => by
    rcases List.mem_cons.1 h with rfl | h
    · exact n2 hk
    · exact (n4 k (by simpa using h)).1 hk
  have hnr : ∀ k ∈ rr.bks, k ∉ nb :: v.ownBlock.toList := fun k hk h => by
    rcases List.mem_cons.1 h with rfl | h
    · exact n3 hk
    · exact (n4 k (by simpa using h)).2 hk
  have hset : (#[l.ptr, rr.ptr, v].setIfInBounds 2 v') = #[l.ptr, rr.ptr, v'] := rfl
  have hob8 := hob7.set 2 v'
  rw [hset] at hob8
  have hv8 := own_only hv ((Only.refl [nb] w7).setCell (p := ⟨nb, 2, none⟩) (Or.inl (by simp)) v') (fun j hj hm => by rw [show j = nb from by simpa using hm] at hj; exact ob_own hob7 hv (by decide) hj)
  have hll : (L.take (spot L met) ++ L.drop (spot L met + 1)).length = L.length - 1 := by rw [List.length_append, List.length_take, List.length_drop]; omega
  have hpm := del_perm L (spot L met) hsl
  rw [hse2] at hpm
  refine ⟨⟨⟨h0, hob8, by rw [hll]; exact hv8, Tr.okm_only h3 o8 hnl, Tr.okm_only h4 o8 hnr⟩, ?_, p1, p2, o8.more (fun k hk => (Tr.bks_nd ..).2 ?_)⟩, ?_⟩
  · obtain ⟨w0, w1, w2, w3, w4⟩ := hw
    exact ⟨w0, rise_del w1 _, fun x hx => w2 x (hpm.mem_iff.1 (List.mem_cons_of_mem _ hx)), w3, w4⟩
  · rcases List.mem_cons.1 hk with rfl | hk
    · exact .inl rfl
    · exact .inr (.inl (by simpa using hk))
  · simp only [Tr.all]
    exact (hpm.append_right l.all).append_right rr.all
set_option maxRecDepth 100000 in
set_option maxHeartbeats 8000000 in
theorem without1 (base : Nat) (net via met : Int) (b : Nat) (hb32 : b ≤ 32) (hna : 0 ≤ net ∧ net ≤ 4294967295) (y : Rt) (hky : y.net = net ∧ y.bits = (b : Int) ∧ y.met = met) : ∀ (k d : Nat) (t : Tr) (w : World), d + k = b → t.okm base w → t.wf d (pre net d) → t.bks.Nodup → base ≤ w.heap.size → y ∈ t.all → t.all.length ≤ 1000 →
    Calls Try.prog 24 #[t.ptr, .agg #[.int .u32 net, .int .i64 (b : Int), .int .u32 via, .int .i64 met], .int .i64 (d : Int)] w (GoneE base t y (pre net d) d w) := by
  have HKY := hid hky; clear hky
  intro k
  induction k with
  | zero =>
    intro d t w hd hm hw hn hbase hy hlen
    obtain rfl : b = d := by omega
    cases t with
    | nil => simp [Tr.all] at hy
    | nd nb v L l rr =>
      obtain ⟨W0, hW0⟩ : ∃ W0, w.alloc (.cells #[.int .u32 net, .int .i64 (b : Int), .int .u32 via, .int .i64 met] 34) = W0 := ⟨_, rfl⟩
      have OB : Hid (Ob W0 w.heap.size 34 #[.int .u32 net, .int .i64 (b : Int), .int .u32 via, .int .i64 met]) := hid (by rw [← hW0]; exact Ob.new _ _ _)
      have Q0 : Only [] w W0 := by rw [← hW0]; exact (Only.refl [] w).alloc _
      have HM := hid (Tr.okm_nil hm Q0); have HW := hid hw; have HN := hid hn; have HY := hid hy; have HLn := hid hlen; have HQ := hid Q0
      have HG : Hid (∀ k ∈ (Tr.nd nb v L l rr).bks, k ∈ (Tr.nd nb v L l rr).bks ∨ w.heap.size ≤ k) := hid (fun k hk => .inl hk)
      have HBs : Hid (base ≤ W0.heap.size) := hid (Nat.le_trans hbase Q0.size)
      have HOb := hid HM.out.2.1; have HOv := hid HM.out.2.2.1
      obtain ⟨ql, hql⟩ := Tr.ptr_form l; obtain ⟨qr, hqr⟩ := Tr.ptr_form rr
      have HQL := hid hql; have HQR := hid hqr; clear hql hqr
      clear hm hw hn hy hlen Q0 hbase
      rw [show Tr.ptr (Tr.nd nb v L l rr) = Value.pointer (some ⟨nb, 0, none⟩) from rfl]
      have g0 := OB.out.cell 0; have g1 := OB.out.cell 1; have g2 := OB.out.cell 2; have g3 := OB.out.cell 3
      go_enter Try.func24, Try.ntmps24
      go_wp2_with fail
      clear g0 g1 g2 g3
      have HI : Hid (spot L met < L.length) := hid (by obtain ⟨h, _⟩ := spot_at HW.out.2.1 (Tr.here HW.out HY.out HKY.out.2.1); rwa [HKY.out.2.2] at h)
      refine (place1 W0 base nb v _ _ L met HOb.out HOv.out HW.out.2.1 (by have := HLn.out; simp only [Tr.all, List.length_append] at this; omega)).mono ?_
      rintro x w2 ⟨rfl, o2⟩
      have HO2 := hid (HOb.out.only o2 (by simp)); have HV2 := hid (own_only_nil HOv.out o2); have Q2 := hid o2
      obtain ⟨i, hi⟩ : ∃ i, spot L met = i := ⟨_, rfl⟩
      rw [hi] at HI ⊢
      have HSi := hid hi
      have hi9 : i < 100000 := by have := HI.out; have := HLn.out; simp only [Tr.all, List.length_append] at this; omega
      clear o2 hi
      have k2 := HO2.out.cell 2
      go_wp2_with fail
      clear k2
      refine (delL w2 base v L i HV2.out HI.out (by have := HLn.out; simp only [Tr.all, List.length_append] at this; omega)).mono ?_
      rintro x w7 ⟨g, cap, rfl, hv7, hbk7, o7⟩
      have Q7 : Hid (Only v.ownBlock.toList W0 w7) := hid ((Q2.out.more (by simp)).trans o7)
      have HN1 : Hid (v.ownBlock ≠ some nb) := hid ((Tr.nodup_nd ..).1 HN.out).1.1
      have HO7 := hid (HO2.out.only o7 (fun h => HN1.out (by simpa using h)))
      have HG8 := hid (gone_here HY.out HKY.out HM.out HW.out HN.out Q7.out (by rw [HSi.out]; exact hv7) (show (Value.slice (some ⟨g, 0, none⟩) (L.length - 1) cap).ownBlock = v.ownBlock from hbk7.symm))
      obtain ⟨n, hn⟩ : ∃ n, L.length - 1 = n := ⟨_, rfl⟩
      rw [hn] at hv7 HG8 ⊢
      have HLn7 : Hid ((L.take (spot L met) ++ L.drop (spot L met + 1)).length = n) := hid (by rw [HSi.out, List.length_append, List.length_take, List.length_drop]; have := HI.out; omega)
      have hn9 : n < 100000 := by have := HLn.out; simp only [Tr.all, List.length_append] at this; omega
      clear hv7 o7 hn hbk7
      have k0 := HO7.out.cell 0; have k1 := HO7.out.cell 1; have k2 := HO7.out.cell 2; have f2 := HO7.out.frozen 2
      obtain ⟨W8, hW8⟩ : ∃ W8, w7.setCell ⟨nb, 2, none⟩ (.slice (some ⟨g, 0, none⟩) n cap) = W8 := ⟨_, rfl⟩
      rw [hW8] at HG8
      have HF : Hid (Ob W8 nb 58 #[.pointer ql, .pointer qr, .slice (some ⟨g, 0, none⟩) n cap]) := hid (by have := HO7.out.set 2 (.slice (some ⟨g, 0, none⟩) n cap); rw [hW8, HQL.out, HQR.out] at this; exact this)
      have u0 := HF.out.cell 0; have u1 := HF.out.cell 1; have u2 := HF.out.cell 2
      rw [HQL.out] at k0; rw [HQR.out] at k1
      by_cases hz : n = 0
      · have hz2 : ((n : Nat) : Int) = 0 := by omega
        have HZ := hid hz; clear hz
        have hz3 : ((((n : Nat) : Int)) == 0) = true := by simpa using hz2
        clear hz2
        rcases ql with _ | a0
        · rcases qr with _ | a1
          · have f0 := HF.out.cell 0; have f1 := HF.out.cell 1; have f2 := HF.out.cell 2
            clear HF
            go_wp2_with fail
            go_ret
            refine ⟨.nil, rfl, (HG8.out.1.from HQ.out HG.out).none, ?_⟩
            have h9 := HG8.out.2
            simp only [Tr.all] at h9 ⊢
            rw [Tr.ptr_none HQL.out, Tr.ptr_none HQR.out] at h9 ⊢
            rw [List.eq_nil_of_length_eq_zero (HLn7.out.trans HZ.out)] at h9
            exact h9
          · have f0 := HF.out.cell 0; have f1 := HF.out.cell 1; have f2 := HF.out.cell 2
            clear HF
            go_wp2_with fail
            go_ret
            exact ⟨_, rfl, HG8.out.1.from HQ.out HG.out, HG8.out.2⟩
        · have f0 := HF.out.cell 0; have f1 := HF.out.cell 1; have f2 := HF.out.cell 2
          clear HF
          go_wp2_with fail
          go_ret
          exact ⟨_, rfl, HG8.out.1.from HQ.out HG.out, HG8.out.2⟩
      · have hz2 : ((((n : Nat) : Int)) == 0) = false := by simpa using hz
        clear hz
        have f0 := HF.out.cell 0; have f1 := HF.out.cell 1; have f2 := HF.out.cell 2
        clear HF
        go_wp2_with fail
        go_ret
        exact ⟨_, rfl, HG8.out.1.from HQ.out HG.out, HG8.out.2⟩
  | succ k ih =>
    have IH := hid ih; clear ih
    intro d t w hd hm hw hn hbase hy hlen
    cases t with
    | nil => simp [Tr.all] at hy
    | nd nb v L l rr =>
      obtain ⟨W0, hW0⟩ : ∃ W0, w.alloc (.cells #[.int .u32 net, .int .i64 (b : Int), .int .u32 via, .int .i64 met] 34) = W0 := ⟨_, rfl⟩
      have OB : Hid (Ob W0 w.heap.size 34 #[.int .u32 net, .int .i64 (b : Int), .int .u32 via, .int .i64 met]) := hid (by rw [← hW0]; exact Ob.new _ _ _)
      have Q0 : Only [] w W0 := by rw [← hW0]; exact (Only.refl [] w).alloc _
      have HM := hid (Tr.okm_nil hm Q0); have HW := hid hw; have HN := hid hn; have HY := hid hy; have HLn := hid hlen; have HQ := hid Q0
      have HG : Hid (∀ k ∈ (Tr.nd nb v L l rr).bks, k ∈ (Tr.nd nb v L l rr).bks ∨ w.heap.size ≤ k) := hid (fun k hk => .inl hk)
      have HBs : Hid (base ≤ W0.heap.size) := hid (Nat.le_trans hbase Q0.size)
      have HOb := hid HM.out.2.1; have HOv := hid HM.out.2.2.1
      obtain ⟨ql, hql⟩ := Tr.ptr_form l; obtain ⟨qr, hqr⟩ := Tr.ptr_form rr
      have HQL := hid hql; have HQR := hid hqr; clear hql hqr
      clear hm hw hn hy hlen Q0 hbase
      rw [show Tr.ptr (Tr.nd nb v L l rr) = Value.pointer (some ⟨nb, 0, none⟩) from rfl]
      have g0 := OB.out.cell 0; have g1 := OB.out.cell 1; have g2 := OB.out.cell 2; have g3 := OB.out.cell 3
      have hd32 : d < 32 := by omega
      have hdb : ¬ (d : Int) = (b : Int) := by omega
      have HE1 : Hid (IntKind.i64.wrap ((d : Int) + 1) = ((d + 1 : Nat) : Int)) := hid (by rw [i64_in _ (by omega)]; omega)
      go_enter Try.func24, Try.ntmps24
      go_wp2_with fail
      clear g0 g1 g2 g3
      refine (bit1 W0 net d hna hd32).mono ?_
      rintro x w2 ⟨rfl, hw2⟩
      subst hw2
      rcases bt_or net d with hz | hz
      · have hz2 : (bt net d : Int) = 0 := hz
        rw [hz2]
        go_wp2_with fail
        refine wp_region_noPanic ?_
        refine rgn.regionT (R := AnyW) (by kernel_rfl) (fun _ => AnyW.any _ _) (fun _ _ _ _ _ => AnyW.any _ _) (fun _ _ _ _ _ h => h) (.y 0 (.y 1 (.y 2 (.y 3 (.y 4 (.y 5 (.y 6 (.y 9 (.y 10 (.y 12 (.y 13 (.b 7 8 (.e 8 (.e 11 (.y 14 (.e 15 .z)))) (.e 7 (.e 11 (.y 14 (.e 15 .z)))))))))))))))) (by kernel_rfl) (fun W hWd => ?_)
        have HWd := hid hWd; clear hWd
        have q8 : Only [] W0 W := Only.eq_drew (Only.refl [] _) HWd.out
        have HO := hid (HOb.out.only q8 (by simp)); have Q := hid q8; have OB := hid (OB.out.only q8 (by simp)); have HMW := hid (Tr.okm_nil HM.out q8)
        have HMk : Hid (Tr.okm base W l) := hid HMW.out.2.2.2.1
        have HWk : Hid (Tr.wf l (d + 1) (pre net (d + 1))) := hid (by have := HW.out.2.2.2.1; rw [pre_succ _ hd32, hz]; first | exact this | (rw [Int.add_zero]; exact this))
        have HNd := hid ((Tr.nodup_nd ..).1 HN.out)
        have HNk : Hid ((Tr.bks l).Nodup) := hid HNd.out.2.2.1
        have HNn : Hid (nb ∉ Tr.bks l) := hid HNd.out.1.2.1
        have HYk : Hid (y ∈ Tr.all l) := hid (by have := Tr.down HW.out HY.out (by rw [HKY.out.2.1]; omega) (by rw [HKY.out.1]); unfold Tr.kid at this; rw [if_pos hz] at this; exact this)
        have HLk : Hid ((Tr.all l).length ≤ 1000) := hid (by have := HLn.out; simp only [Tr.all, List.length_append] at this ⊢; omega)
        clear HWd q8
        refine rgn.Walk.ys (v := ?_) rfl rfl rfl ?_ ?_
        rotate_left 1
        · intro W' hW'
          go_simp
          try with_reducible rfl
        try simp only [Act.put, List.setIfInBounds_toArray, List.set_cons_zero, List.set_cons_succ]
        refine rgn.Walk.ys (v := ?_) rfl rfl rfl ?_ ?_
        rotate_left 1
        · intro W' hW'
          go_simp
          try with_reducible rfl
        try simp only [Act.put, List.setIfInBounds_toArray, List.set_cons_zero, List.set_cons_succ]
        refine rgn.Walk.ys (v := ?_) rfl rfl rfl ?_ ?_
        rotate_left 1
        · intro W' hW'
          go_simp
          try with_reducible rfl
        try simp only [Act.put, List.setIfInBounds_toArray, List.set_cons_zero, List.set_cons_succ]
        refine rgn.Walk.ys (v := ?_) rfl rfl rfl ?_ ?_
        rotate_left 1
        · intro W' hW'
          go_simp
          try with_reducible rfl
        try simp only [Act.put, List.setIfInBounds_toArray, List.set_cons_zero, List.set_cons_succ]
        refine rgn.Walk.ys (v := ?_) rfl rfl rfl ?_ ?_
        rotate_left 1
        · intro W' hW'
          go_simp
          try with_reducible rfl
        try simp only [Act.put, List.setIfInBounds_toArray, List.set_cons_zero, List.set_cons_succ]
        refine rgn.Walk.ys (v := ?_) rfl rfl rfl ?_ ?_
        rotate_left 1
        · intro W' hW'
          go_simp
          try with_reducible rfl
        try simp only [Act.put, List.setIfInBounds_toArray, List.set_cons_zero, List.set_cons_succ]
        refine rgn.Walk.ys (v := ?_) rfl rfl rfl ?_ ?_
        rotate_left 1
        · intro W' hW'
          go_simp
          try with_reducible rfl
        try simp only [Act.put, List.setIfInBounds_toArray, List.set_cons_zero, List.set_cons_succ]
        refine rgn.Walk.ys (v := ?_) rfl rfl rfl ?_ ?_
        rotate_left 1
        · intro W' hW'
          go_simp
          try with_reducible rfl
        try simp only [Act.put, List.setIfInBounds_toArray, List.set_cons_zero, List.set_cons_succ]
        refine rgn.Walk.ys (v := ?_) rfl rfl rfl ?_ ?_
        rotate_left 1
        · intro W' hW'
          go_simp
          try with_reducible rfl
        try simp only [Act.put, List.setIfInBounds_toArray, List.set_cons_zero, List.set_cons_succ]
        refine rgn.Walk.ys (v := ?_) rfl rfl rfl ?_ ?_
        rotate_left 1
        · intro W' hW'
          go_simp
          try with_reducible rfl
        try simp only [Act.put, List.setIfInBounds_toArray, List.set_cons_zero, List.set_cons_succ]
        refine rgn.Walk.ys (v := ?_) rfl rfl rfl ?_ ?_
        rotate_left 1
        · intro W' hW'
          go_simp
          try with_reducible rfl
        try simp only [Act.put, List.setIfInBounds_toArray, List.set_cons_zero, List.set_cons_succ]
        refine rgn.Walk.bs ?_ ?_
        · refine rgn.stepE rfl rfl (fun K hK => ?_)
          have qq := HO.out.cell 0
          go_simp
          refine hK _ _ (AnyW.any _ _) ?_
          clear hK K qq
          try simp only [Act.put, List.setIfInBounds_toArray, List.set_cons_zero, List.set_cons_succ]
          refine rgn.Walk.es ?_
          refine rgn.stepE rfl rfl (fun K hK => ?_)
          have b0 := OB.out.cell 0; have b1 := OB.out.cell 1; have b2 := OB.out.cell 2; have b3 := OB.out.cell 3
          go_simp
          refine hK _ _ (AnyW.any _ _) ?_
          clear hK K b0 b1 b2 b3
          try simp only [Act.put, List.setIfInBounds_toArray, List.set_cons_zero, List.set_cons_succ]
          refine rgn.Walk.es ?_
          refine rgn.stepE rfl rfl (fun K hK => ?_)
          go_simp
          rw [HE1.out]
          refine (IH.out (d + 1) l W (by omega) HMk.out HWk.out HNk.out (Nat.le_trans HBs.out Q.out.size) HYk.out HLk.out).mono ?_
          rintro x w9 ⟨t', rfl, hg9, hp9⟩
          obtain ⟨q, hq⟩ := Tr.ptr_form t'
          have HG9 := hid hg9; have HP9 := hid hp9; have HPq := hid hq
          rw [hq]
          refine hK _ _ (AnyW.any _ _) ?_
          clear hK K hq hp9
          have HO := hid (HO.out.only hg9.only HNn.out)
          clear hg9
          try simp only [Act.put, List.setIfInBounds_toArray, List.set_cons_zero, List.set_cons_succ]
          refine rgn.Walk.ys (v := ?_) rfl rfl rfl ?_ ?_
          rotate_left 1
          · intro W' hW'
            go_simp
            try with_reducible rfl
          try simp only [Act.put, List.setIfInBounds_toArray, List.set_cons_zero, List.set_cons_succ]
          refine rgn.Walk.es ?_
          refine rgn.stepE rfl rfl (fun K hK => ?_)
          have ff := HO.out.frozen 0; have qq := HO.out.cell 0
          go_simp
          refine hK _ _ (AnyW.any _ _) ?_
          clear hK K ff qq
          have HF := hid (HO.out.set 0 (.pointer q))
          rw [show (#[Tr.ptr l, Tr.ptr rr, v].setIfInBounds 0 (Value.pointer q)) = #[.pointer q, Tr.ptr rr, v] from rfl, HQR.out] at HF
          try simp only [Act.put, List.setIfInBounds_toArray, List.set_cons_zero, List.set_cons_succ]
          refine rgn.Walk.zs (NoPanic.normal ?_)
          have HG8 : Hid (Grew base W0 (Tr.nd nb v L l rr) d (pre net d) _ _) := hid ((grew_l HMW.out HW.out HN.out (p := pre net d) (by have := HG9.out; rw [pre_succ _ hd32, hz] at this; first | exact this | (rw [Int.add_zero] at this; exact this))).from Q.out (fun k hk => .inl hk))
          rw [HPq.out] at HG8
          have HP8 : Hid ((y :: (Tr.nd nb v L t' rr).all).Perm (Tr.nd nb v L l rr).all) := hid (by
            show List.Perm (_ :: (_ ++ _ ++ _)) (_ ++ _ ++ _)
            refine List.Perm.trans ?_ ((List.Perm.append_left _ HP9.out).append_right _)
            rw [show ∀ (A B : List Rt) (x : Rt) (C : List Rt), A ++ x :: B ++ C = A ++ x :: (B ++ C) from fun A B x C => by simp, List.append_assoc]
            exact List.perm_middle.symm)
          obtain ⟨A, c, ev, _, _, _, _, _, _⟩ := RdS.of_own HOv.out (rws_one enc_one _)
          have HEV := hid ev
          rw [ev] at HF
          clear ev
          obtain ⟨n, hn⟩ : ∃ n, L.length = n := ⟨_, rfl⟩
          rw [hn] at HF
          have HLl := hid hn
          clear hn
          obtain ⟨W9, hW9⟩ : ∃ W9, w9.setCell ⟨nb, 0, none⟩ (.pointer q) = W9 := ⟨_, rfl⟩
          rw [hW9] at HF HG8 ⊢
          clear hW9
          have u0 := HF.out.cell 0; have u1 := HF.out.cell 1; have u2 := HF.out.cell 2
          by_cases hz : n = 0
          · have hz2 : ((n : Nat) : Int) = 0 := by omega
            have HZ := hid hz; clear hz
            have hz3 : ((((n : Nat) : Int)) == 0) = true := by simpa using hz2
            clear hz2
            rcases q with _ | a0
            · rcases qr with _ | a1
              · have f0 := HF.out.cell 0; have f1 := HF.out.cell 1; have f2 := HF.out.cell 2
                clear HF
                go_wp2_with fail
                go_ret
                refine ⟨.nil, rfl, (HG8.out.from HQ.out HG.out).none, ?_⟩
                have h9 := HP8.out
                simp only [Tr.all] at h9 ⊢
                have e1 := List.eq_nil_of_length_eq_zero (HLl.out.trans HZ.out); have e2 := Tr.ptr_none HPq.out; have e3 := Tr.ptr_none HQR.out; subst e1; rw [e2, e3] at h9; rw [e3]
                exact h9
              · have f0 := HF.out.cell 0; have f1 := HF.out.cell 1; have f2 := HF.out.cell 2
                clear HF
                go_wp2_with fail
                go_ret
                exact ⟨_, rfl, HG8.out.from HQ.out HG.out, HP8.out⟩
            · have f0 := HF.out.cell 0; have f1 := HF.out.cell 1; have f2 := HF.out.cell 2
              clear HF
              go_wp2_with fail
              go_ret
              exact ⟨_, rfl, HG8.out.from HQ.out HG.out, HP8.out⟩
          · have hz2 : ((((n : Nat) : Int)) == 0) = false := by simpa using hz
            clear hz
            have f0 := HF.out.cell 0; have f1 := HF.out.cell 1; have f2 := HF.out.cell 2
            clear HF
            go_wp2_with fail
            go_ret
            exact ⟨_, rfl, HG8.out.from HQ.out HG.out, HP8.out⟩
        · refine rgn.stepE rfl rfl (fun K hK => ?_)
          have b0 := OB.out.cell 0; have b1 := OB.out.cell 1; have b2 := OB.out.cell 2; have b3 := OB.out.cell 3
          go_simp
          refine hK _ _ (AnyW.any _ _) ?_
          clear hK K b0 b1 b2 b3
          try simp only [Act.put, List.setIfInBounds_toArray, List.set_cons_zero, List.set_cons_succ]
          refine rgn.Walk.es ?_
          refine rgn.stepE rfl rfl (fun K hK => ?_)
          have qq := HO.out.cell 0
          go_simp
          refine hK _ _ (AnyW.any _ _) ?_
          clear hK K qq
          try simp only [Act.put, List.setIfInBounds_toArray, List.set_cons_zero, List.set_cons_succ]
          refine rgn.Walk.es ?_
          refine rgn.stepE rfl rfl (fun K hK => ?_)
          go_simp
          rw [HE1.out]
          refine (IH.out (d + 1) l W (by omega) HMk.out HWk.out HNk.out (Nat.le_trans HBs.out Q.out.size) HYk.out HLk.out).mono ?_
          rintro x w9 ⟨t', rfl, hg9, hp9⟩
          obtain ⟨q, hq⟩ := Tr.ptr_form t'
          have HG9 := hid hg9; have HP9 := hid hp9; have HPq := hid hq
          rw [hq]
          refine hK _ _ (AnyW.any _ _) ?_
          clear hK K hq hp9
          have HO := hid (HO.out.only hg9.only HNn.out)
          clear hg9
          try simp only [Act.put, List.setIfInBounds_toArray, List.set_cons_zero, List.set_cons_succ]
          refine rgn.Walk.ys (v := ?_) rfl rfl rfl ?_ ?_
          rotate_left 1
          · intro W' hW'
            go_simp
            try with_reducible rfl
          try simp only [Act.put, List.setIfInBounds_toArray, List.set_cons_zero, List.set_cons_succ]
          refine rgn.Walk.es ?_
          refine rgn.stepE rfl rfl (fun K hK => ?_)
          have ff := HO.out.frozen 0; have qq := HO.out.cell 0
          go_simp
          refine hK _ _ (AnyW.any _ _) ?_
          clear hK K ff qq
          have HF := hid (HO.out.set 0 (.pointer q))
          rw [show (#[Tr.ptr l, Tr.ptr rr, v].setIfInBounds 0 (Value.pointer q)) = #[.pointer q, Tr.ptr rr, v] from rfl, HQR.out] at HF
          try simp only [Act.put, List.setIfInBounds_toArray, List.set_cons_zero, List.set_cons_succ]
          refine rgn.Walk.zs (NoPanic.normal ?_)
          have HG8 : Hid (Grew base W0 (Tr.nd nb v L l rr) d (pre net d) _ _) := hid ((grew_l HMW.out HW.out HN.out (p := pre net d) (by have := HG9.out; rw [pre_succ _ hd32, hz] at this; first | exact this | (rw [Int.add_zero] at this; exact this))).from Q.out (fun k hk => .inl hk))
          rw [HPq.out] at HG8
          have HP8 : Hid ((y :: (Tr.nd nb v L t' rr).all).Perm (Tr.nd nb v L l rr).all) := hid (by
            show List.Perm (_ :: (_ ++ _ ++ _)) (_ ++ _ ++ _)
            refine List.Perm.trans ?_ ((List.Perm.append_left _ HP9.out).append_right _)
            rw [show ∀ (A B : List Rt) (x : Rt) (C : List Rt), A ++ x :: B ++ C = A ++ x :: (B ++ C) from fun A B x C => by simp, List.append_assoc]
            exact List.perm_middle.symm)
          obtain ⟨A, c, ev, _, _, _, _, _, _⟩ := RdS.of_own HOv.out (rws_one enc_one _)
          have HEV := hid ev
          rw [ev] at HF
          clear ev
          obtain ⟨n, hn⟩ : ∃ n, L.length = n := ⟨_, rfl⟩
          rw [hn] at HF
          have HLl := hid hn
          clear hn
          obtain ⟨W9, hW9⟩ : ∃ W9, w9.setCell ⟨nb, 0, none⟩ (.pointer q) = W9 := ⟨_, rfl⟩
          rw [hW9] at HF HG8 ⊢
          clear hW9
          have u0 := HF.out.cell 0; have u1 := HF.out.cell 1; have u2 := HF.out.cell 2
          by_cases hz : n = 0
          · have hz2 : ((n : Nat) : Int) = 0 := by omega
            have HZ := hid hz; clear hz
            have hz3 : ((((n : Nat) : Int)) == 0) = true := by simpa using hz2
            clear hz2
            rcases q with _ | a0
            · rcases qr with _ | a1
              · have f0 := HF.out.cell 0; have f1 := HF.out.cell 1; have f2 := HF.out.cell 2
                clear HF
                go_wp2_with fail
                go_ret
                refine ⟨.nil, rfl, (HG8.out.from HQ.out HG.out).none, ?_⟩
                have h9 := HP8.out
                simp only [Tr.all] at h9 ⊢
                have e1 := List.eq_nil_of_length_eq_zero (HLl.out.trans HZ.out); have e2 := Tr.ptr_none HPq.out; have e3 := Tr.ptr_none HQR.out; subst e1; rw [e2, e3] at h9; rw [e3]
                exact h9
              · have f0 := HF.out.cell 0; have f1 := HF.out.cell 1; have f2 := HF.out.cell 2
                clear HF
                go_wp2_with fail
                go_ret
                exact ⟨_, rfl, HG8.out.from HQ.out HG.out, HP8.out⟩
            · have f0 := HF.out.cell 0; have f1 := HF.out.cell 1; have f2 := HF.out.cell 2
              clear HF
              go_wp2_with fail
              go_ret
              exact ⟨_, rfl, HG8.out.from HQ.out HG.out, HP8.out⟩
          · have hz2 : ((((n : Nat) : Int)) == 0) = false := by simpa using hz
            clear hz
            have f0 := HF.out.cell 0; have f1 := HF.out.cell 1; have f2 := HF.out.cell 2
            clear HF
            go_wp2_with fail
            go_ret
            exact ⟨_, rfl, HG8.out.from HQ.out HG.out, HP8.out⟩
      · have hz2 : (bt net d : Int) = 1 := hz
        rw [hz2]
        go_wp2_with fail
        refine wp_region_noPanic ?_
        refine rgn.regionT (R := AnyW) (by kernel_rfl) (fun _ => AnyW.any _ _) (fun _ _ _ _ _ => AnyW.any _ _) (fun _ _ _ _ _ h => h) (.y 0 (.y 1 (.y 2 (.y 3 (.y 4 (.y 5 (.y 6 (.y 9 (.y 10 (.y 12 (.y 13 (.b 7 8 (.e 8 (.e 11 (.y 14 (.e 15 .z)))) (.e 7 (.e 11 (.y 14 (.e 15 .z)))))))))))))))) (by kernel_rfl) (fun W hWd => ?_)
        have HWd := hid hWd; clear hWd
        have q8 : Only [] W0 W := Only.eq_drew (Only.refl [] _) HWd.out
        have HO := hid (HOb.out.only q8 (by simp)); have Q := hid q8; have OB := hid (OB.out.only q8 (by simp)); have HMW := hid (Tr.okm_nil HM.out q8)
        have HMk : Hid (Tr.okm base W rr) := hid HMW.out.2.2.2.2
        have HWk : Hid (Tr.wf rr (d + 1) (pre net (d + 1))) := hid (by have := HW.out.2.2.2.2; rw [pre_succ _ hd32, hz]; first | exact this | (rw [Int.add_zero]; exact this))
        have HNd := hid ((Tr.nodup_nd ..).1 HN.out)
        have HNk : Hid ((Tr.bks rr).Nodup) := hid HNd.out.2.2.2.1
        have HNn : Hid (nb ∉ Tr.bks rr) := hid HNd.out.1.2.2
        have HYk : Hid (y ∈ Tr.all rr) := hid (by have := Tr.down HW.out HY.out (by rw [HKY.out.2.1]; omega) (by rw [HKY.out.1]); unfold Tr.kid at this; rw [if_neg (by omega)] at this; exact this)
        have HLk : Hid ((Tr.all rr).length ≤ 1000) := hid (by have := HLn.out; simp only [Tr.all, List.length_append] at this ⊢; omega)
        clear HWd q8
        refine rgn.Walk.ys (v := ?_) rfl rfl rfl ?_ ?_
        rotate_left 1
        · intro W' hW'
          go_simp
          try with_reducible rfl
        try simp only [Act.put, List.setIfInBounds_toArray, List.set_cons_zero, List.set_cons_succ]
        refine rgn.Walk.ys (v := ?_) rfl rfl rfl ?_ ?_
        rotate_left 1
        · intro W' hW'
          go_simp
          try with_reducible rfl
        try simp only [Act.put, List.setIfInBounds_toArray, List.set_cons_zero, List.set_cons_succ]
        refine rgn.Walk.ys (v := ?_) rfl rfl rfl ?_ ?_
        rotate_left 1
        · intro W' hW'
          go_simp
          try with_reducible rfl
        try simp only [Act.put, List.setIfInBounds_toArray, List.set_cons_zero, List.set_cons_succ]
        refine rgn.Walk.ys (v := ?_) rfl rfl rfl ?_ ?_
        rotate_left 1
        · intro W' hW'
          go_simp
          try with_reducible rfl
        try simp only [Act.put, List.setIfInBounds_toArray, List.set_cons_zero, List.set_cons_succ]
        refine rgn.Walk.ys (v := ?_) rfl rfl rfl ?_ ?_
        rotate_left 1
        · intro W' hW'
          go_simp
          try with_reducible rfl
        try simp only [Act.put, List.setIfInBounds_toArray, List.set_cons_zero, List.set_cons_succ]
        refine rgn.Walk.ys (v := ?_) rfl rfl rfl ?_ ?_
        rotate_left 1
        · intro W' hW'
          go_simp
          try with_reducible rfl
        try simp only [Act.put, List.setIfInBounds_toArray, List.set_cons_zero, List.set_cons_succ]
        refine rgn.Walk.ys (v := ?_) rfl rfl rfl ?_ ?_
        rotate_left 1
        · intro W' hW'
          go_simp
          try with_reducible rfl
        try simp only [Act.put, List.setIfInBounds_toArray, List.set_cons_zero, List.set_cons_succ]
        refine rgn.Walk.ys (v := ?_) rfl rfl rfl ?_ ?_
        rotate_left 1
        · intro W' hW'
          go_simp
          try with_reducible rfl
        try simp only [Act.put, List.setIfInBounds_toArray, List.set_cons_zero, List.set_cons_succ]
        refine rgn.Walk.ys (v := ?_) rfl rfl rfl ?_ ?_
        rotate_left 1
        · intro W' hW'
          go_simp
          try with_reducible rfl
        try simp only [Act.put, List.setIfInBounds_toArray, List.set_cons_zero, List.set_cons_succ]
        refine rgn.Walk.ys (v := ?_) rfl rfl rfl ?_ ?_
        rotate_left 1
        · intro W' hW'
          go_simp
          try with_reducible rfl
        try simp only [Act.put, List.setIfInBounds_toArray, List.set_cons_zero, List.set_cons_succ]
        refine rgn.Walk.ys (v := ?_) rfl rfl rfl ?_ ?_
        rotate_left 1
        · intro W' hW'
          go_simp
          try with_reducible rfl
        try simp only [Act.put, List.setIfInBounds_toArray, List.set_cons_zero, List.set_cons_succ]
        refine rgn.Walk.bs ?_ ?_
        · refine rgn.stepE rfl rfl (fun K hK => ?_)
          have qq := HO.out.cell 1
          go_simp
          refine hK _ _ (AnyW.any _ _) ?_
          clear hK K qq
          try simp only [Act.put, List.setIfInBounds_toArray, List.set_cons_zero, List.set_cons_succ]
          refine rgn.Walk.es ?_
          refine rgn.stepE rfl rfl (fun K hK => ?_)
          have b0 := OB.out.cell 0; have b1 := OB.out.cell 1; have b2 := OB.out.cell 2; have b3 := OB.out.cell 3
          go_simp
          refine hK _ _ (AnyW.any _ _) ?_
          clear hK K b0 b1 b2 b3
          try simp only [Act.put, List.setIfInBounds_toArray, List.set_cons_zero, List.set_cons_succ]
          refine rgn.Walk.es ?_
          refine rgn.stepE rfl rfl (fun K hK => ?_)
          go_simp
          rw [HE1.out]
          refine (IH.out (d + 1) rr W (by omega) HMk.out HWk.out HNk.out (Nat.le_trans HBs.out Q.out.size) HYk.out HLk.out).mono ?_
          rintro x w9 ⟨t', rfl, hg9, hp9⟩
          obtain ⟨q, hq⟩ := Tr.ptr_form t'
          have HG9 := hid hg9; have HP9 := hid hp9; have HPq := hid hq
          rw [hq]
          refine hK _ _ (AnyW.any _ _) ?_
          clear hK K hq hp9
          have HO := hid (HO.out.only hg9.only HNn.out)
          clear hg9
          try simp only [Act.put, List.setIfInBounds_toArray, List.set_cons_zero, List.set_cons_succ]
          refine rgn.Walk.ys (v := ?_) rfl rfl rfl ?_ ?_
          rotate_left 1
          · intro W' hW'
            go_simp
            try with_reducible rfl
          try simp only [Act.put, List.setIfInBounds_toArray, List.set_cons_zero, List.set_cons_succ]
          refine rgn.Walk.es ?_
          refine rgn.stepE rfl rfl (fun K hK => ?_)
          have ff := HO.out.frozen 1; have qq := HO.out.cell 1
          go_simp
          refine hK _ _ (AnyW.any _ _) ?_
          clear hK K ff qq
          have HF := hid (HO.out.set 1 (.pointer q))
          rw [show (#[Tr.ptr l, Tr.ptr rr, v].setIfInBounds 1 (Value.pointer q)) = #[Tr.ptr l, .pointer q, v] from rfl, HQL.out] at HF
          try simp only [Act.put, List.setIfInBounds_toArray, List.set_cons_zero, List.set_cons_succ]
          refine rgn.Walk.zs (NoPanic.normal ?_)
          have HG8 : Hid (Grew base W0 (Tr.nd nb v L l rr) d (pre net d) _ _) := hid ((grew_r HMW.out HW.out HN.out (p := pre net d) (by have := HG9.out; rw [pre_succ _ hd32, hz] at this; first | exact this | (rw [Int.add_zero] at this; exact this))).from Q.out (fun k hk => .inl hk))
          rw [HPq.out] at HG8
          have HP8 : Hid ((y :: (Tr.nd nb v L l t').all).Perm (Tr.nd nb v L l rr).all) := hid (by
            show List.Perm (_ :: (_ ++ _ ++ _)) (_ ++ _ ++ _)
            refine List.Perm.trans ?_ (List.Perm.append_left _ HP9.out)
            exact List.perm_middle.symm)
          obtain ⟨A, c, ev, _, _, _, _, _, _⟩ := RdS.of_own HOv.out (rws_one enc_one _)
          have HEV := hid ev
          rw [ev] at HF
          clear ev
          obtain ⟨n, hn⟩ : ∃ n, L.length = n := ⟨_, rfl⟩
          rw [hn] at HF
          have HLl := hid hn
          clear hn
          obtain ⟨W9, hW9⟩ : ∃ W9, w9.setCell ⟨nb, 1, none⟩ (.pointer q) = W9 := ⟨_, rfl⟩
          rw [hW9] at HF HG8 ⊢
          clear hW9
          have u0 := HF.out.cell 0; have u1 := HF.out.cell 1; have u2 := HF.out.cell 2
          by_cases hz : n = 0
          · have hz2 : ((n : Nat) : Int) = 0 := by omega
            have HZ := hid hz; clear hz
            have hz3 : ((((n : Nat) : Int)) == 0) = true := by simpa using hz2
            clear hz2
            rcases ql with _ | a0
            · rcases q with _ | a1
              · have f0 := HF.out.cell 0; have f1 := HF.out.cell 1; have f2 := HF.out.cell 2
                clear HF
                go_wp2_with fail
                go_ret
                refine ⟨.nil, rfl, (HG8.out.from HQ.out HG.out).none, ?_⟩
                have h9 := HP8.out
                simp only [Tr.all] at h9 ⊢
                have e1 := List.eq_nil_of_length_eq_zero (HLl.out.trans HZ.out); have e2 := Tr.ptr_none HPq.out; have e3 := Tr.ptr_none HQL.out; subst e1; rw [e2, e3] at h9; rw [e3]
                exact h9
              · have f0 := HF.out.cell 0; have f1 := HF.out.cell 1; have f2 := HF.out.cell 2
                clear HF
                go_wp2_with fail
                go_ret
                exact ⟨_, rfl, HG8.out.from HQ.out HG.out, HP8.out⟩
            · have f0 := HF.out.cell 0; have f1 := HF.out.cell 1; have f2 := HF.out.cell 2
              clear HF
              go_wp2_with fail
              go_ret
              exact ⟨_, rfl, HG8.out.from HQ.out HG.out, HP8.out⟩
          · have hz2 : ((((n : Nat) : Int)) == 0) = false := by simpa using hz
            clear hz
            have f0 := HF.out.cell 0; have f1 := HF.out.cell 1; have f2 := HF.out.cell 2
            clear HF
            go_wp2_with fail
            go_ret
            exact ⟨_, rfl, HG8.out.from HQ.out HG.out, HP8.out⟩
        · refine rgn.stepE rfl rfl (fun K hK => ?_)
          have b0 := OB.out.cell 0; have b1 := OB.out.cell 1; have b2 := OB.out.cell 2; have b3 := OB.out.cell 3
          go_simp
          refine hK _ _ (AnyW.any _ _) ?_
          clear hK K b0 b1 b2 b3
          try simp only [Act.put, List.setIfInBounds_toArray, List.set_cons_zero, List.set_cons_succ]
          refine rgn.Walk.es ?_
          refine rgn.stepE rfl rfl (fun K hK => ?_)
          have qq := HO.out.cell 1
          go_simp
          refine hK _ _ (AnyW.any _ _) ?_
          clear hK K qq
          try simp only [Act.put, List.setIfInBounds_toArray, List.set_cons_zero, List.set_cons_succ]
          refine rgn.Walk.es ?_
          refine rgn.stepE rfl rfl (fun K hK => ?_)
          go_simp
          rw [HE1.out]
          refine (IH.out (d + 1) rr W (by omega) HMk.out HWk.out HNk.out (Nat.le_trans HBs.out Q.out.size) HYk.out HLk.out).mono ?_
          rintro x w9 ⟨t', rfl, hg9, hp9⟩
          obtain ⟨q, hq⟩ := Tr.ptr_form t'
          have HG9 := hid hg9; have HP9 := hid hp9; have HPq := hid hq
          rw [hq]
          refine hK _ _ (AnyW.any _ _) ?_
          clear hK K hq hp9
          have HO := hid (HO.out.only hg9.only HNn.out)
          clear hg9
          try simp only [Act.put, List.setIfInBounds_toArray, List.set_cons_zero, List.set_cons_succ]
          refine rgn.Walk.ys (v := ?_) rfl rfl rfl ?_ ?_
          rotate_left 1
          · intro W' hW'
            go_simp
            try with_reducible rfl
          try simp only [Act.put, List.setIfInBounds_toArray, List.set_cons_zero, List.set_cons_succ]
          refine rgn.Walk.es ?_
          refine rgn.stepE rfl rfl (fun K hK => ?_)
          have ff := HO.out.frozen 1; have qq := HO.out.cell 1
          go_simp
          refine hK _ _ (AnyW.any _ _) ?_
          clear hK K ff qq
          have HF := hid (HO.out.set 1 (.pointer q))
          rw [show (#[Tr.ptr l, Tr.ptr rr, v].setIfInBounds 1 (Value.pointer q)) = #[Tr.ptr l, .pointer q, v] from rfl, HQL.out] at HF
          try simp only [Act.put, List.setIfInBounds_toArray, List.set_cons_zero, List.set_cons_succ]
          refine rgn.Walk.zs (NoPanic.normal ?_)
          have HG8 : Hid (Grew base W0 (Tr.nd nb v L l rr) d (pre net d) _ _) := hid ((grew_r HMW.out HW.out HN.out (p := pre net d) (by have := HG9.out; rw [pre_succ _ hd32, hz] at this; first | exact this | (rw [Int.add_zero] at this; exact this))).from Q.out (fun k hk => .inl hk))
          rw [HPq.out] at HG8
          have HP8 : Hid ((y :: (Tr.nd nb v L l t').all).Perm (Tr.nd nb v L l rr).all) := hid (by
            show List.Perm (_ :: (_ ++ _ ++ _)) (_ ++ _ ++ _)
            refine List.Perm.trans ?_ (List.Perm.append_left _ HP9.out)
            exact List.perm_middle.symm)
          obtain ⟨A, c, ev, _, _, _, _, _, _⟩ := RdS.of_own HOv.out (rws_one enc_one _)
          have HEV := hid ev
          rw [ev] at HF
          clear ev
          obtain ⟨n, hn⟩ : ∃ n, L.length = n := ⟨_, rfl⟩
          rw [hn] at HF
          have HLl := hid hn
          clear hn
          obtain ⟨W9, hW9⟩ : ∃ W9, w9.setCell ⟨nb, 1, none⟩ (.pointer q) = W9 := ⟨_, rfl⟩
          rw [hW9] at HF HG8 ⊢
          clear hW9
          have u0 := HF.out.cell 0; have u1 := HF.out.cell 1; have u2 := HF.out.cell 2
          by_cases hz : n = 0
          · have hz2 : ((n : Nat) : Int) = 0 := by omega
            have HZ := hid hz; clear hz
            have hz3 : ((((n : Nat) : Int)) == 0) = true := by simpa using hz2
            clear hz2
            rcases ql with _ | a0
            · rcases q with _ | a1
              · have f0 := HF.out.cell 0; have f1 := HF.out.cell 1; have f2 := HF.out.cell 2
                clear HF
                go_wp2_with fail
                go_ret
                refine ⟨.nil, rfl, (HG8.out.from HQ.out HG.out).none, ?_⟩
                have h9 := HP8.out
                simp only [Tr.all] at h9 ⊢
                have e1 := List.eq_nil_of_length_eq_zero (HLl.out.trans HZ.out); have e2 := Tr.ptr_none HPq.out; have e3 := Tr.ptr_none HQL.out; subst e1; rw [e2, e3] at h9; rw [e3]
                exact h9
              · have f0 := HF.out.cell 0; have f1 := HF.out.cell 1; have f2 := HF.out.cell 2
                clear HF
                go_wp2_with fail
                go_ret
                exact ⟨_, rfl, HG8.out.from HQ.out HG.out, HP8.out⟩
            · have f0 := HF.out.cell 0; have f1 := HF.out.cell 1; have f2 := HF.out.cell 2
              clear HF
              go_wp2_with fail
              go_ret
              exact ⟨_, rfl, HG8.out.from HQ.out HG.out, HP8.out⟩
          · have hz2 : ((((n : Nat) : Int)) == 0) = false := by simpa using hz
            clear hz
            have f0 := HF.out.cell 0; have f1 := HF.out.cell 1; have f2 := HF.out.cell 2
            clear HF
            go_wp2_with fail
            go_ret
            exact ⟨_, rfl, HG8.out.from HQ.out HG.out, HP8.out⟩
end Go.Proofs.Ytoidpakenocllaa.rou
