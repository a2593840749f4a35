/-
  Chapter 8 (route): the document's Remove, by a walk of its text. Conditions: none but those typed.
-/
import Derived.Test.YtoidpakenocllaaRtM
namespace Go.Proofs.Ytoidpakenocllaa.rou
set_option linter.unusedVariables false
set_option linter.unusedSimpArgs false
open Go.ChangeShapes Go.WideShapes Go.ChangeAt Go.RowKit Go.IntWalk Go.Lib
set_option maxRecDepth 100000 in
set_option maxHeartbeats 8000000 in
theorem removeD (w : World) (B g : Nat) (v : Value) (D : List Rt) (r : Rt) (h : DTV w B g v D) (hs : Srt D) (hl : D.length ≤ 64) (hB : B ≤ w.heap.size) :
    Calls Try.prog 11 #[.pointer (some ⟨g, 0, none⟩), .agg #[.int .u32 r.net, .int .i64 r.bits, .int .u32 r.via, .int .i64 r.met]] w (RemD B g v D r w) := by
  obtain ⟨rn, rb, rv, rm⟩ := r
  have H := hid h; have HS := hid hs; have HB := hid hB
  obtain ⟨W0, hW0⟩ : ∃ W0, w.alloc (.cells #[.int .u32 rn, .int .i64 rb, .int .u32 rv, .int .i64 rm] 34) = W0 := ⟨_, rfl⟩
  have OB : Hid (Ob W0 w.heap.size 34 #[.int .u32 rn, .int .i64 rb, .int .u32 rv, .int .i64 rm]) := hid (by rw [← hW0]; exact Ob.new _ _ _)
  have Q0 : Hid (Only [] w W0) := hid (by rw [← hW0]; exact (Only.refl [] w).alloc _)
  clear h hs hB
  have g0 := OB.out.cell 0; have g1 := OB.out.cell 1; have g2 := OB.out.cell 2; have g3 := OB.out.cell 3
  go_enter Try.func11, Try.ntmps11
  go_wp2_with fail
  clear g0 g1 g2 g3
  have H1 := hid (H.out.nil Q0.out)
  refine (spot1 W0 B g v D ⟨rn, rb, rv, rm⟩ H1.out (by omega)).mono ?_
  rintro x w2 ⟨⟨i, rfl, hi⟩, o2⟩
  have H2 := hid (H1.out.nil o2); have Q2 := hid (Q0.out.trans o2)
  clear o2
  rcases hi with ⟨rfl, hno⟩ | ⟨k, hk, rfl, hkey⟩
  · have HNO := hid hno; clear hno
    go_wp2_with fail
    go_ret
    exact ⟨_, D, v, rfl, .inl ⟨rfl, HNO.out, rfl⟩, H.out.same Q2.out⟩
  · have HKN0 := hid hk
    have HKEY := hid hkey
    clear hkey
    obtain ⟨A, c, ev, -, -, -, -, -, -⟩ := RdS.of_own H2.out.own (rws_one enc_one _)
    have H3 := H2
    rw [ev] at H3
    clear ev
    obtain ⟨n, hn⟩ : ∃ n, D.length = n := ⟨_, rfl⟩
    have HN := hid hn
    rw [hn] at H3 hl hk
    have HKN := hid hk
    obtain ⟨hS1, hR1, hZ1, hF1⟩ := slTo w2 B A n c k D H3.out.own hn (by omega)
    obtain ⟨A2, c2, hS2, hR2, hZ2, hF2⟩ := slFrom w2 B A n c (k + 1) D H3.out.own hn (by omega)
    rw [show (((k + 1 : Nat)) : Int) = (k : Int) + 1 from by omega] at hS2
    have HS1 := hid hS1; have HR1 := hid hR1; have HZ1 := hid hZ1; have HF1 := hid hF1; have HS2 := hid hS2; have HR2 := hid hR2; have HZ2 := hid hZ2; have HF2 := hid hF2
    have HO4 := hid H3.out.ob
    have HLw : Hid (w.heap.size ≤ w2.heap.size) := hid Q2.out.size
    have HWR : Hid (IntKind.i64.wrap ((k : Int) + 1) = (k : Int) + 1) := hid (i64_in _ (by omega))
    have hk0 : ¬ (k : Int) < 0 := by omega
    clear hS1 hR1 hZ1 hF1 hS2 hR2 hZ2 hF2 hn
    go_wp2_with fail
    refine wp_region_noPanic ?_
    refine rgn.regionT (R := AnyW) (by kernel_rfl) (fun _ => AnyW.any _ _) (fun _ _ _ _ _ => AnyW.any _ _) (fun _ _ _ _ _ h => h) (.y 0 (.y 2 (.y 3 (.y 4 (.y 6 (.y 9 (.y 10 (.y 11 (.y 13 (.y 14 (.c 1 5 12 (.b 5 12 (.y 7 (.b 8 12 (.e 12 (.y 15 (.e 16 (.y 17 (.y 18 (.e 19 .z)))))) (.y 15 (.e 8 (.e 16 (.y 17 (.y 18 (.e 19 .z)))))))) (.y 15 (.e 5 (.y 7 (.e 8 (.e 16 (.y 17 (.y 18 (.e 19 .z))))))))) (.y 7 (.b 1 12 (.b 8 12 (.e 12 (.y 15 (.e 16 (.y 17 (.y 18 (.e 19 .z)))))) (.y 15 (.e 8 (.e 16 (.y 17 (.y 18 (.e 19 .z))))))) (.y 15 (.e 1 (.e 8 (.e 16 (.y 17 (.y 18 (.e 19 .z))))))))) (.y 15 (.b 1 5 (.e 5 (.y 7 (.e 8 (.e 16 (.y 17 (.y 18 (.e 19 .z))))))) (.y 7 (.e 1 (.e 8 (.e 16 (.y 17 (.y 18 (.e 19 .z)))))))))))))))))))) (by kernel_rfl) (fun WR hWd => ?_)
    have HWd := hid hWd; clear hWd
    have q9 : Only [] w2 WR := Only.eq_drew (Only.refl [] _) HWd.out
    have QC := hid q9; have HSZ := hid q9.size
    clear q9 HWd
    refine rgn.Walk.ys (v := ?_) rfl rfl rfl ?_ ?_
    rotate_left 1
    · intro W' hW'
      go_simp
      try with_reducible rfl
    try simp only [Act.put, List.setIfInBounds_toArray, List.set_cons_zero, List.set_cons_succ]
    refine rgn.Walk.ys (v := ?_) rfl rfl rfl ?_ ?_
    rotate_left 1
    · intro W' hW'
      go_simp
      try with_reducible rfl
    try simp only [Act.put, List.setIfInBounds_toArray, List.set_cons_zero, List.set_cons_succ]
    refine rgn.Walk.ys (v := ?_) rfl rfl rfl ?_ ?_
    rotate_left 1
    · intro W' hW'
      go_simp
      try with_reducible rfl
    try simp only [Act.put, List.setIfInBounds_toArray, List.set_cons_zero, List.set_cons_succ]
    refine rgn.Walk.ys (v := ?_) rfl rfl rfl ?_ ?_
    rotate_left 1
    · intro W' hW'
      go_simp
      try with_reducible rfl
    try simp only [Act.put, List.setIfInBounds_toArray, List.set_cons_zero, List.set_cons_succ]
    refine rgn.Walk.ys (v := ?_) rfl rfl rfl ?_ ?_
    rotate_left 1
    · intro W' hW'
      go_simp
      try with_reducible rfl
    try simp only [Act.put, List.setIfInBounds_toArray, List.set_cons_zero, List.set_cons_succ]
    refine rgn.Walk.ys (v := ?_) rfl rfl rfl ?_ ?_
    rotate_left 1
    · intro W' hW'
      go_simp
      try with_reducible rfl
    try simp only [Act.put, List.setIfInBounds_toArray, List.set_cons_zero, List.set_cons_succ]
    refine rgn.Walk.ys (v := ?_) rfl rfl rfl ?_ ?_
    rotate_left 1
    · intro W' hW'
      go_simp
      try with_reducible rfl
    try simp only [Act.put, List.setIfInBounds_toArray, List.set_cons_zero, List.set_cons_succ]
    refine rgn.Walk.ys (v := ?_) rfl rfl rfl ?_ ?_
    rotate_left 1
    · intro W' hW'
      go_simp
      try with_reducible rfl
    try simp only [Act.put, List.setIfInBounds_toArray, List.set_cons_zero, List.set_cons_succ]
    refine rgn.Walk.ys (v := ?_) rfl rfl rfl ?_ ?_
    rotate_left 1
    · intro W' hW'
      go_simp
      try with_reducible rfl
    try simp only [Act.put, List.setIfInBounds_toArray, List.set_cons_zero, List.set_cons_succ]
    refine rgn.Walk.ys (v := ?_) rfl rfl rfl ?_ ?_
    rotate_left 1
    · intro W' hW'
      go_simp
      try rw [HWR.out]
      try with_reducible rfl
    try simp only [Act.put, List.setIfInBounds_toArray, List.set_cons_zero, List.set_cons_succ]
    refine rgn.Walk.cs ?_ ?_ ?_
    · refine rgn.stepE rfl rfl (fun K hK => ?_)
      go_simp
      refine hK _ _ (AnyW.any _ _) ?_
      clear hK K
      try simp only [Act.put, List.setIfInBounds_toArray, List.set_cons_zero, List.set_cons_succ]
      obtain ⟨wE, hwE⟩ : ∃ x, WR.alloc (.cells #[] 34) = x := ⟨_, rfl⟩
      rw [hwE]
      have oE : Only [] WR wE := by rw [← hwE]; exact (Only.refl [] WR).alloc _
      have HE : Hid (wE.ownsRow w2.heap.size 34 4 (.slice (some ⟨WR.heap.size, 0, none⟩) 0 0) 0 []) := hid ⟨by simp, .inr ⟨WR.heap.size, 0, #[], rfl, HSZ.out, by rw [← hwE]; exact Ob.new _ _ _, Nat.le_refl _, by unfold maxLen; omega, by simp, by simp⟩⟩
      have HEB : Hid (wE.heap.size = WR.heap.size + 1) := hid (by rw [← hwE]; simp)
      have HEL := HSZ
      replace QC := hid (QC.out.trans oE); replace HSZ := hid QC.out.size
      clear oE hwE
      refine rgn.Walk.bs ?_ ?_
      · refine rgn.stepE rfl rfl (fun K hK => ?_)
        have qq := (HO4.out.only QC.out (by simp)).cell 0
        go_simp
        refine hK _ _ (AnyW.any _ _) ?_
        clear hK K qq
        try simp only [Act.put, List.setIfInBounds_toArray, List.set_cons_zero, List.set_cons_succ]
        refine rgn.Walk.ys (v := ?_) rfl rfl rfl ?_ ?_
        rotate_left 1
        · intro W' hW'
          have hs1 := HS1.out
          go_simp
          try with_reducible rfl
        try simp only [Act.put, List.setIfInBounds_toArray, List.set_cons_zero, List.set_cons_succ]
        refine rgn.Walk.bs ?_ ?_
        · refine rgn.stepE rfl rfl (fun K hK => ?_)
          refine opAppS _ rfl (.tmp 12) (.tmp 18) _ rfl elemS _ (.slice (some ⟨WR.heap.size, 0, none⟩) 0 0) 0 [] rfl HE.out A k c (rws Rt.enc (D.take k)) rfl (HR1.out.only_nil QC.out) HZ1.out HF1.out (by omega) (by unfold maxLen; omega) HSZ.out (fun v7 w7 hv7 hg7 hb7 => ?_)
          refine hK _ _ (AnyW.any _ _) ?_
          clear hK K
          try simp only [Act.put, List.setIfInBounds_toArray, List.set_cons_zero, List.set_cons_succ]
          have V7 := hid (show w7.ownsRow _ 34 4 v7 k (rws Rt.enc (D.take k)) from by simpa using hv7)
          replace QC := hid (QC.out.of_grown hg7 (fun jj hj2 => .inr (own_lt HE.out jj hj2).1)); replace HSZ := hid QC.out.size
          clear hv7 hg7 hb7
          refine rgn.Walk.es ?_
          refine rgn.stepE rfl rfl (fun K hK => ?_)
          have qq := (HO4.out.only QC.out (by simp)).cell 0
          go_simp
          refine hK _ _ (AnyW.any _ _) ?_
          clear hK K qq
          try simp only [Act.put, List.setIfInBounds_toArray, List.set_cons_zero, List.set_cons_succ]
          refine rgn.Walk.ys (v := ?_) rfl rfl rfl ?_ ?_
          rotate_left 1
          · intro W' hW'
            have hs2 := HS2.out
            go_simp
            try with_reducible rfl
          try simp only [Act.put, List.setIfInBounds_toArray, List.set_cons_zero, List.set_cons_succ]
          refine rgn.Walk.es ?_
          refine rgn.stepE rfl rfl (fun K hK => ?_)
          refine opAppS _ rfl (.tmp 19) (.tmp 26) _ rfl elemS _ v7 k (rws Rt.enc (D.take k)) rfl V7.out A2 (n - (k + 1)) c2 (rws Rt.enc (D.drop (k + 1))) rfl (HR2.out.only_nil QC.out) HZ2.out HF2.out (by omega) (by unfold maxLen; omega) HSZ.out (fun v10 w10 hv10 hg10 hb10 => ?_)
          obtain ⟨A12, c12, e12, -, -, -, -, -, -⟩ := RdS.of_own hv10 (one3 D ⟨rn, rb, rv, rm⟩ k _ (fun u hu => by
            rcases List.mem_append.1 hu with hu | hu
            · exact .inl hu
            · exact .inr (.inr (by rw [← rws_drop enc_len D (k + 1) (by have := HKN.out; have := HN.out; omega)] at hu; rw [← rws_drop enc_len D k (by have := HKN.out; have := HN.out; omega)]; exact (List.drop_subset_drop_left _ (by omega)) hu))))
          have HE12 := hid e12
          rw [e12]
          refine hK _ _ (AnyW.any _ _) ?_
          clear hK K
          try simp only [Act.put, List.setIfInBounds_toArray, List.set_cons_zero, List.set_cons_succ]
          have HV12 : Hid (w10.ownsRow w.heap.size 34 4 v10 (k + (n - (k + 1))) (rws Rt.enc (D.take k ++ D.drop (k + 1)))) := hid (own_mono (by rw [rws_app]; exact hv10) HLw.out)
          replace QC := hid (QC.out.of_grown hg10 (fun jj hj2 => .inr (own_lt V7.out jj hj2).1))
          clear hv10 hg10 hb10 e12
          refine rgn.Walk.ys (v := ?_) rfl rfl rfl ?_ ?_
          rotate_left 1
          · intro W' hW'
            go_simp
            try with_reducible rfl
          try simp only [Act.put, List.setIfInBounds_toArray, List.set_cons_zero, List.set_cons_succ]
          refine rgn.Walk.ys (v := ?_) rfl rfl rfl ?_ ?_
          rotate_left 1
          · intro W' hW'
            go_simp
            try with_reducible rfl
          try simp only [Act.put, List.setIfInBounds_toArray, List.set_cons_zero, List.set_cons_succ]
          refine rgn.Walk.es ?_
          refine rgn.stepE rfl rfl (fun K hK => ?_)
          have HOC := hid (HO4.out.only QC.out (by simp))
          have k0 := HOC.out.cell 0; have f0 := HOC.out.frozen 0
          go_simp
          refine hK _ _ (AnyW.any _ _) ?_
          clear hK K k0 f0
          try simp only [Act.put, List.setIfInBounds_toArray, List.set_cons_zero, List.set_cons_succ]
          refine rgn.Walk.zs (NoPanic.normal ?_)
          go_wp2_with fail
          go_ret
          have hdp := del_perm D k HKN0.out
          have hsd : Srt (D.take k ++ D.drop (k + 1)) := by
            refine HS.out.sublist ?_
            have h1 : (D.drop (k + 1)).Sublist (D.drop k) := by rw [← List.drop_drop]; exact List.drop_sublist _ _
            have h2 := (List.Sublist.refl (D.take k)).append h1
            rwa [List.take_append_drop] at h2
          have hll : (D.take k ++ D.drop (k + 1)).length = n - 1 := by have := hdp.length_eq; rw [List.length_cons, HN.out] at this; omega
          have hst := dstep_put H.out (Q2.out.trans QC.out) HB.out HV12.out (by rw [hll]; omega)
          rw [HE12.out] at hst
          exact ⟨_, _, _, rfl, .inr ⟨rfl, D[k], List.getElem_mem HKN0.out, HKEY.out, hdp, hsd⟩, hst⟩
        · refine rgn.stepE rfl rfl (fun K hK => ?_)
          have qq := (HO4.out.only QC.out (by simp)).cell 0
          go_simp
          refine hK _ _ (AnyW.any _ _) ?_
          clear hK K qq
          try simp only [Act.put, List.setIfInBounds_toArray, List.set_cons_zero, List.set_cons_succ]
          refine rgn.Walk.ys (v := ?_) rfl rfl rfl ?_ ?_
          rotate_left 1
          · intro W' hW'
            have hs2 := HS2.out
            go_simp
            try with_reducible rfl
          try simp only [Act.put, List.setIfInBounds_toArray, List.set_cons_zero, List.set_cons_succ]
          refine rgn.Walk.es ?_
          refine rgn.stepE rfl rfl (fun K hK => ?_)
          refine opAppS _ rfl (.tmp 12) (.tmp 18) _ rfl elemS _ (.slice (some ⟨WR.heap.size, 0, none⟩) 0 0) 0 [] rfl HE.out A k c (rws Rt.enc (D.take k)) rfl (HR1.out.only_nil QC.out) HZ1.out HF1.out (by omega) (by unfold maxLen; omega) HSZ.out (fun v7 w7 hv7 hg7 hb7 => ?_)
          refine hK _ _ (AnyW.any _ _) ?_
          clear hK K
          try simp only [Act.put, List.setIfInBounds_toArray, List.set_cons_zero, List.set_cons_succ]
          have V7 := hid (show w7.ownsRow _ 34 4 v7 k (rws Rt.enc (D.take k)) from by simpa using hv7)
          replace QC := hid (QC.out.of_grown hg7 (fun jj hj2 => .inr (own_lt HE.out jj hj2).1)); replace HSZ := hid QC.out.size
          clear hv7 hg7 hb7
          refine rgn.Walk.es ?_
          refine rgn.stepE rfl rfl (fun K hK => ?_)
          refine opAppS _ rfl (.tmp 19) (.tmp 26) _ rfl elemS _ v7 k (rws Rt.enc (D.take k)) rfl V7.out A2 (n - (k + 1)) c2 (rws Rt.enc (D.drop (k + 1))) rfl (HR2.out.only_nil QC.out) HZ2.out HF2.out (by omega) (by unfold maxLen; omega) HSZ.out (fun v10 w10 hv10 hg10 hb10 => ?_)
          obtain ⟨A12, c12, e12, -, -, -, -, -, -⟩ := RdS.of_own hv10 (one3 D ⟨rn, rb, rv, rm⟩ k _ (fun u hu => by
            rcases List.mem_append.1 hu with hu | hu
            · exact .inl hu
            · exact .inr (.inr (by rw [← rws_drop enc_len D (k + 1) (by have := HKN.out; have := HN.out; omega)] at hu; rw [← rws_drop enc_len D k (by have := HKN.out; have := HN.out; omega)]; exact (List.drop_subset_drop_left _ (by omega)) hu))))
          have HE12 := hid e12
          rw [e12]
          refine hK _ _ (AnyW.any _ _) ?_
          clear hK K
          try simp only [Act.put, List.setIfInBounds_toArray, List.set_cons_zero, List.set_cons_succ]
          have HV12 : Hid (w10.ownsRow w.heap.size 34 4 v10 (k + (n - (k + 1))) (rws Rt.enc (D.take k ++ D.drop (k + 1)))) := hid (own_mono (by rw [rws_app]; exact hv10) HLw.out)
          replace QC := hid (QC.out.of_grown hg10 (fun jj hj2 => .inr (own_lt V7.out jj hj2).1))
          clear hv10 hg10 hb10 e12
          refine rgn.Walk.ys (v := ?_) rfl rfl rfl ?_ ?_
          rotate_left 1
          · intro W' hW'
            go_simp
            try with_reducible rfl
          try simp only [Act.put, List.setIfInBounds_toArray, List.set_cons_zero, List.set_cons_succ]
          refine rgn.Walk.ys (v := ?_) rfl rfl rfl ?_ ?_
          rotate_left 1
          · intro W' hW'
            go_simp
            try with_reducible rfl
          try simp only [Act.put, List.setIfInBounds_toArray, List.set_cons_zero, List.set_cons_succ]
          refine rgn.Walk.es ?_
          refine rgn.stepE rfl rfl (fun K hK => ?_)
          have HOC := hid (HO4.out.only QC.out (by simp))
          have k0 := HOC.out.cell 0; have f0 := HOC.out.frozen 0
          go_simp
          refine hK _ _ (AnyW.any _ _) ?_
          clear hK K k0 f0
          try simp only [Act.put, List.setIfInBounds_toArray, List.set_cons_zero, List.set_cons_succ]
          refine rgn.Walk.zs (NoPanic.normal ?_)
          go_wp2_with fail
          go_ret
          have hdp := del_perm D k HKN0.out
          have hsd : Srt (D.take k ++ D.drop (k + 1)) := by
            refine HS.out.sublist ?_
            have h1 : (D.drop (k + 1)).Sublist (D.drop k) := by rw [← List.drop_drop]; exact List.drop_sublist _ _
            have h2 := (List.Sublist.refl (D.take k)).append h1
            rwa [List.take_append_drop] at h2
          have hll : (D.take k ++ D.drop (k + 1)).length = n - 1 := by have := hdp.length_eq; rw [List.length_cons, HN.out] at this; omega
          have hst := dstep_put H.out (Q2.out.trans QC.out) HB.out HV12.out (by rw [hll]; omega)
          rw [HE12.out] at hst
          exact ⟨_, _, _, rfl, .inr ⟨rfl, D[k], List.getElem_mem HKN0.out, HKEY.out, hdp, hsd⟩, hst⟩
      · refine rgn.stepE rfl rfl (fun K hK => ?_)
        have qq := (HO4.out.only QC.out (by simp)).cell 0
        go_simp
        refine hK _ _ (AnyW.any _ _) ?_
        clear hK K qq
        try simp only [Act.put, List.setIfInBounds_toArray, List.set_cons_zero, List.set_cons_succ]
        refine rgn.Walk.ys (v := ?_) rfl rfl rfl ?_ ?_
        rotate_left 1
        · intro W' hW'
          have hs2 := HS2.out
          go_simp
          try with_reducible rfl
        try simp only [Act.put, List.setIfInBounds_toArray, List.set_cons_zero, List.set_cons_succ]
        refine rgn.Walk.es ?_
        refine rgn.stepE rfl rfl (fun K hK => ?_)
        have qq := (HO4.out.only QC.out (by simp)).cell 0
        go_simp
        refine hK _ _ (AnyW.any _ _) ?_
        clear hK K qq
        try simp only [Act.put, List.setIfInBounds_toArray, List.set_cons_zero, List.set_cons_succ]
        refine rgn.Walk.ys (v := ?_) rfl rfl rfl ?_ ?_
        rotate_left 1
        · intro W' hW'
          have hs1 := HS1.out
          go_simp
          try with_reducible rfl
        try simp only [Act.put, List.setIfInBounds_toArray, List.set_cons_zero, List.set_cons_succ]
        refine rgn.Walk.es ?_
        refine rgn.stepE rfl rfl (fun K hK => ?_)
        refine opAppS _ rfl (.tmp 12) (.tmp 18) _ rfl elemS _ (.slice (some ⟨WR.heap.size, 0, none⟩) 0 0) 0 [] rfl HE.out A k c (rws Rt.enc (D.take k)) rfl (HR1.out.only_nil QC.out) HZ1.out HF1.out (by omega) (by unfold maxLen; omega) HSZ.out (fun v7 w7 hv7 hg7 hb7 => ?_)
        refine hK _ _ (AnyW.any _ _) ?_
        clear hK K
        try simp only [Act.put, List.setIfInBounds_toArray, List.set_cons_zero, List.set_cons_succ]
        have V7 := hid (show w7.ownsRow _ 34 4 v7 k (rws Rt.enc (D.take k)) from by simpa using hv7)
        replace QC := hid (QC.out.of_grown hg7 (fun jj hj2 => .inr (own_lt HE.out jj hj2).1)); replace HSZ := hid QC.out.size
        clear hv7 hg7 hb7
        refine rgn.Walk.es ?_
        refine rgn.stepE rfl rfl (fun K hK => ?_)
        refine opAppS _ rfl (.tmp 19) (.tmp 26) _ rfl elemS _ v7 k (rws Rt.enc (D.take k)) rfl V7.out A2 (n - (k + 1)) c2 (rws Rt.enc (D.drop (k + 1))) rfl (HR2.out.only_nil QC.out) HZ2.out HF2.out (by omega) (by unfold maxLen; omega) HSZ.out (fun v10 w10 hv10 hg10 hb10 => ?_)
        obtain ⟨A12, c12, e12, -, -, -, -, -, -⟩ := RdS.of_own hv10 (one3 D ⟨rn, rb, rv, rm⟩ k _ (fun u hu => by
          rcases List.mem_append.1 hu with hu | hu
          · exact .inl hu
          · exact .inr (.inr (by rw [← rws_drop enc_len D (k + 1) (by have := HKN.out; have := HN.out; omega)] at hu; rw [← rws_drop enc_len D k (by have := HKN.out; have := HN.out; omega)]; exact (List.drop_subset_drop_left _ (by omega)) hu))))
        have HE12 := hid e12
        rw [e12]
        refine hK _ _ (AnyW.any _ _) ?_
        clear hK K
        try simp only [Act.put, List.setIfInBounds_toArray, List.set_cons_zero, List.set_cons_succ]
        have HV12 : Hid (w10.ownsRow w.heap.size 34 4 v10 (k + (n - (k + 1))) (rws Rt.enc (D.take k ++ D.drop (k + 1)))) := hid (own_mono (by rw [rws_app]; exact hv10) HLw.out)
        replace QC := hid (QC.out.of_grown hg10 (fun jj hj2 => .inr (own_lt V7.out jj hj2).1))
        clear hv10 hg10 hb10 e12
        refine rgn.Walk.ys (v := ?_) rfl rfl rfl ?_ ?_
        rotate_left 1
        · intro W' hW'
          go_simp
          try with_reducible rfl
        try simp only [Act.put, List.setIfInBounds_toArray, List.set_cons_zero, List.set_cons_succ]
        refine rgn.Walk.ys (v := ?_) rfl rfl rfl ?_ ?_
        rotate_left 1
        · intro W' hW'
          go_simp
          try with_reducible rfl
        try simp only [Act.put, List.setIfInBounds_toArray, List.set_cons_zero, List.set_cons_succ]
        refine rgn.Walk.es ?_
        refine rgn.stepE rfl rfl (fun K hK => ?_)
        have HOC := hid (HO4.out.only QC.out (by simp))
        have k0 := HOC.out.cell 0; have f0 := HOC.out.frozen 0
        go_simp
        refine hK _ _ (AnyW.any _ _) ?_
        clear hK K k0 f0
        try simp only [Act.put, List.setIfInBounds_toArray, List.set_cons_zero, List.set_cons_succ]
        refine rgn.Walk.zs (NoPanic.normal ?_)
        go_wp2_with fail
        go_ret
        have hdp := del_perm D k HKN0.out
        have hsd : Srt (D.take k ++ D.drop (k + 1)) := by
          refine HS.out.sublist ?_
          have h1 : (D.drop (k + 1)).Sublist (D.drop k) := by rw [← List.drop_drop]; exact List.drop_sublist _ _
          have h2 := (List.Sublist.refl (D.take k)).append h1
          rwa [List.take_append_drop] at h2
        have hll : (D.take k ++ D.drop (k + 1)).length = n - 1 := by have := hdp.length_eq; rw [List.length_cons, HN.out] at this; omega
        have hst := dstep_put H.out (Q2.out.trans QC.out) HB.out HV12.out (by rw [hll]; omega)
        rw [HE12.out] at hst
        exact ⟨_, _, _, rfl, .inr ⟨rfl, D[k], List.getElem_mem HKN0.out, HKEY.out, hdp, hsd⟩, hst⟩
    · refine rgn.stepE rfl rfl (fun K hK => ?_)
      have qq := (HO4.out.only QC.out (by simp)).cell 0
      go_simp
      refine hK _ _ (AnyW.any _ _) ?_
      clear hK K qq
      try simp only [Act.put, List.setIfInBounds_toArray, List.set_cons_zero, List.set_cons_succ]
      refine rgn.Walk.ys (v := ?_) rfl rfl rfl ?_ ?_
      rotate_left 1
      · intro W' hW'
        have hs1 := HS1.out
        go_simp
        try with_reducible rfl
      try simp only [Act.put, List.setIfInBounds_toArray, List.set_cons_zero, List.set_cons_succ]
      refine rgn.Walk.bs ?_ ?_
      · refine rgn.stepE rfl rfl (fun K hK => ?_)
        go_simp
        refine hK _ _ (AnyW.any _ _) ?_
        clear hK K
        try simp only [Act.put, List.setIfInBounds_toArray, List.set_cons_zero, List.set_cons_succ]
        obtain ⟨wE, hwE⟩ : ∃ x, WR.alloc (.cells #[] 34) = x := ⟨_, rfl⟩
        rw [hwE]
        have oE : Only [] WR wE := by rw [← hwE]; exact (Only.refl [] WR).alloc _
        have HE : Hid (wE.ownsRow w2.heap.size 34 4 (.slice (some ⟨WR.heap.size, 0, none⟩) 0 0) 0 []) := hid ⟨by simp, .inr ⟨WR.heap.size, 0, #[], rfl, HSZ.out, by rw [← hwE]; exact Ob.new _ _ _, Nat.le_refl _, by unfold maxLen; omega, by simp, by simp⟩⟩
        have HEB : Hid (wE.heap.size = WR.heap.size + 1) := hid (by rw [← hwE]; simp)
        have HEL := HSZ
        replace QC := hid (QC.out.trans oE); replace HSZ := hid QC.out.size
        clear oE hwE
        refine rgn.Walk.bs ?_ ?_
        · refine rgn.stepE rfl rfl (fun K hK => ?_)
          refine opAppS _ rfl (.tmp 12) (.tmp 18) _ rfl elemS _ (.slice (some ⟨WR.heap.size, 0, none⟩) 0 0) 0 [] rfl HE.out A k c (rws Rt.enc (D.take k)) rfl (HR1.out.only_nil QC.out) HZ1.out HF1.out (by omega) (by unfold maxLen; omega) HSZ.out (fun v7 w7 hv7 hg7 hb7 => ?_)
          refine hK _ _ (AnyW.any _ _) ?_
          clear hK K
          try simp only [Act.put, List.setIfInBounds_toArray, List.set_cons_zero, List.set_cons_succ]
          have V7 := hid (show w7.ownsRow _ 34 4 v7 k (rws Rt.enc (D.take k)) from by simpa using hv7)
          replace QC := hid (QC.out.of_grown hg7 (fun jj hj2 => .inr (own_lt HE.out jj hj2).1)); replace HSZ := hid QC.out.size
          clear hv7 hg7 hb7
          refine rgn.Walk.es ?_
          refine rgn.stepE rfl rfl (fun K hK => ?_)
          have qq := (HO4.out.only QC.out (by simp)).cell 0
          go_simp
          refine hK _ _ (AnyW.any _ _) ?_
          clear hK K qq
          try simp only [Act.put, List.setIfInBounds_toArray, List.set_cons_zero, List.set_cons_succ]
          refine rgn.Walk.ys (v := ?_) rfl rfl rfl ?_ ?_
          rotate_left 1
          · intro W' hW'
            have hs2 := HS2.out
            go_simp
            try with_reducible rfl
          try simp only [Act.put, List.setIfInBounds_toArray, List.set_cons_zero, List.set_cons_succ]
          refine rgn.Walk.es ?_
          refine rgn.stepE rfl rfl (fun K hK => ?_)
          refine opAppS _ rfl (.tmp 19) (.tmp 26) _ rfl elemS _ v7 k (rws Rt.enc (D.take k)) rfl V7.out A2 (n - (k + 1)) c2 (rws Rt.enc (D.drop (k + 1))) rfl (HR2.out.only_nil QC.out) HZ2.out HF2.out (by omega) (by unfold maxLen; omega) HSZ.out (fun v10 w10 hv10 hg10 hb10 => ?_)
          obtain ⟨A12, c12, e12, -, -, -, -, -, -⟩ := RdS.of_own hv10 (one3 D ⟨rn, rb, rv, rm⟩ k _ (fun u hu => by
            rcases List.mem_append.1 hu with hu | hu
            · exact .inl hu
            · exact .inr (.inr (by rw [← rws_drop enc_len D (k + 1) (by have := HKN.out; have := HN.out; omega)] at hu; rw [← rws_drop enc_len D k (by have := HKN.out; have := HN.out; omega)]; exact (List.drop_subset_drop_left _ (by omega)) hu))))
          have HE12 := hid e12
          rw [e12]
          refine hK _ _ (AnyW.any _ _) ?_
          clear hK K
          try simp only [Act.put, List.setIfInBounds_toArray, List.set_cons_zero, List.set_cons_succ]
          have HV12 : Hid (w10.ownsRow w.heap.size 34 4 v10 (k + (n - (k + 1))) (rws Rt.enc (D.take k ++ D.drop (k + 1)))) := hid (own_mono (by rw [rws_app]; exact hv10) HLw.out)
          replace QC := hid (QC.out.of_grown hg10 (fun jj hj2 => .inr (own_lt V7.out jj hj2).1))
          clear hv10 hg10 hb10 e12
          refine rgn.Walk.ys (v := ?_) rfl rfl rfl ?_ ?_
          rotate_left 1
          · intro W' hW'
            go_simp
            try with_reducible rfl
          try simp only [Act.put, List.setIfInBounds_toArray, List.set_cons_zero, List.set_cons_succ]
          refine rgn.Walk.ys (v := ?_) rfl rfl rfl ?_ ?_
          rotate_left 1
          · intro W' hW'
            go_simp
            try with_reducible rfl
          try simp only [Act.put, List.setIfInBounds_toArray, List.set_cons_zero, List.set_cons_succ]
          refine rgn.Walk.es ?_
          refine rgn.stepE rfl rfl (fun K hK => ?_)
          have HOC := hid (HO4.out.only QC.out (by simp))
          have k0 := HOC.out.cell 0; have f0 := HOC.out.frozen 0
          go_simp
          refine hK _ _ (AnyW.any _ _) ?_
          clear hK K k0 f0
          try simp only [Act.put, List.setIfInBounds_toArray, List.set_cons_zero, List.set_cons_succ]
          refine rgn.Walk.zs (NoPanic.normal ?_)
          go_wp2_with fail
          go_ret
          have hdp := del_perm D k HKN0.out
          have hsd : Srt (D.take k ++ D.drop (k + 1)) := by
            refine HS.out.sublist ?_
            have h1 : (D.drop (k + 1)).Sublist (D.drop k) := by rw [← List.drop_drop]; exact List.drop_sublist _ _
            have h2 := (List.Sublist.refl (D.take k)).append h1
            rwa [List.take_append_drop] at h2
          have hll : (D.take k ++ D.drop (k + 1)).length = n - 1 := by have := hdp.length_eq; rw [List.length_cons, HN.out] at this; omega
          have hst := dstep_put H.out (Q2.out.trans QC.out) HB.out HV12.out (by rw [hll]; omega)
          rw [HE12.out] at hst
          exact ⟨_, _, _, rfl, .inr ⟨rfl, D[k], List.getElem_mem HKN0.out, HKEY.out, hdp, hsd⟩, hst⟩
        · refine rgn.stepE rfl rfl (fun K hK => ?_)
          have qq := (HO4.out.only QC.out (by simp)).cell 0
          go_simp
          refine hK _ _ (AnyW.any _ _) ?_
          clear hK K qq
          try simp only [Act.put, List.setIfInBounds_toArray, List.set_cons_zero, List.set_cons_succ]
          refine rgn.Walk.ys (v := ?_) rfl rfl rfl ?_ ?_
          rotate_left 1
          · intro W' hW'
            have hs2 := HS2.out
            go_simp
            try with_reducible rfl
          try simp only [Act.put, List.setIfInBounds_toArray, List.set_cons_zero, List.set_cons_succ]
          refine rgn.Walk.es ?_
          refine rgn.stepE rfl rfl (fun K hK => ?_)
          refine opAppS _ rfl (.tmp 12) (.tmp 18) _ rfl elemS _ (.slice (some ⟨WR.heap.size, 0, none⟩) 0 0) 0 [] rfl HE.out A k c (rws Rt.enc (D.take k)) rfl (HR1.out.only_nil QC.out) HZ1.out HF1.out (by omega) (by unfold maxLen; omega) HSZ.out (fun v7 w7 hv7 hg7 hb7 => ?_)
          refine hK _ _ (AnyW.any _ _) ?_
          clear hK K
          try simp only [Act.put, List.setIfInBounds_toArray, List.set_cons_zero, List.set_cons_succ]
          have V7 := hid (show w7.ownsRow _ 34 4 v7 k (rws Rt.enc (D.take k)) from by simpa using hv7)
          replace QC := hid (QC.out.of_grown hg7 (fun jj hj2 => .inr (own_lt HE.out jj hj2).1)); replace HSZ := hid QC.out.size
          clear hv7 hg7 hb7
          refine rgn.Walk.es ?_
          refine rgn.stepE rfl rfl (fun K hK => ?_)
          refine opAppS _ rfl (.tmp 19) (.tmp 26) _ rfl elemS _ v7 k (rws Rt.enc (D.take k)) rfl V7.out A2 (n - (k + 1)) c2 (rws Rt.enc (D.drop (k + 1))) rfl (HR2.out.only_nil QC.out) HZ2.out HF2.out (by omega) (by unfold maxLen; omega) HSZ.out (fun v10 w10 hv10 hg10 hb10 => ?_)
          obtain ⟨A12, c12, e12, -, -, -, -, -, -⟩ := RdS.of_own hv10 (one3 D ⟨rn, rb, rv, rm⟩ k _ (fun u hu => by
            rcases List.mem_append.1 hu with hu | hu
            · exact .inl hu
            · exact .inr (.inr (by rw [← rws_drop enc_len D (k + 1) (by have := HKN.out; have := HN.out; omega)] at hu; rw [← rws_drop enc_len D k (by have := HKN.out; have := HN.out; omega)]; exact (List.drop_subset_drop_left _ (by omega)) hu))))
          have HE12 := hid e12
          rw [e12]
          refine hK _ _ (AnyW.any _ _) ?_
          clear hK K
          try simp only [Act.put, List.setIfInBounds_toArray, List.set_cons_zero, List.set_cons_succ]
          have HV12 : Hid (w10.ownsRow w.heap.size 34 4 v10 (k + (n - (k + 1))) (rws Rt.enc (D.take k ++ D.drop (k + 1)))) := hid (own_mono (by rw [rws_app]; exact hv10) HLw.out)
          replace QC := hid (QC.out.of_grown hg10 (fun jj hj2 => .inr (own_lt V7.out jj hj2).1))
          clear hv10 hg10 hb10 e12
          refine rgn.Walk.ys (v := ?_) rfl rfl rfl ?_ ?_
          rotate_left 1
          · intro W' hW'
            go_simp
            try with_reducible rfl
          try simp only [Act.put, List.setIfInBounds_toArray, List.set_cons_zero, List.set_cons_succ]
          refine rgn.Walk.ys (v := ?_) rfl rfl rfl ?_ ?_
          rotate_left 1
          · intro W' hW'
            go_simp
            try with_reducible rfl
          try simp only [Act.put, List.setIfInBounds_toArray, List.set_cons_zero, List.set_cons_succ]
          refine rgn.Walk.es ?_
          refine rgn.stepE rfl rfl (fun K hK => ?_)
          have HOC := hid (HO4.out.only QC.out (by simp))
          have k0 := HOC.out.cell 0; have f0 := HOC.out.frozen 0
          go_simp
          refine hK _ _ (AnyW.any _ _) ?_
          clear hK K k0 f0
          try simp only [Act.put, List.setIfInBounds_toArray, List.set_cons_zero, List.set_cons_succ]
          refine rgn.Walk.zs (NoPanic.normal ?_)
          go_wp2_with fail
          go_ret
          have hdp := del_perm D k HKN0.out
          have hsd : Srt (D.take k ++ D.drop (k + 1)) := by
            refine HS.out.sublist ?_
            have h1 : (D.drop (k + 1)).Sublist (D.drop k) := by rw [← List.drop_drop]; exact List.drop_sublist _ _
            have h2 := (List.Sublist.refl (D.take k)).append h1
            rwa [List.take_append_drop] at h2
          have hll : (D.take k ++ D.drop (k + 1)).length = n - 1 := by have := hdp.length_eq; rw [List.length_cons, HN.out] at this; omega
          have hst := dstep_put H.out (Q2.out.trans QC.out) HB.out HV12.out (by rw [hll]; omega)
          rw [HE12.out] at hst
          exact ⟨_, _, _, rfl, .inr ⟨rfl, D[k], List.getElem_mem HKN0.out, HKEY.out, hdp, hsd⟩, hst⟩
      · refine rgn.stepE rfl rfl (fun K hK => ?_)
        have qq := (HO4.out.only QC.out (by simp)).cell 0
        go_simp
        refine hK _ _ (AnyW.any _ _) ?_
        clear hK K qq
        try simp only [Act.put, List.setIfInBounds_toArray, List.set_cons_zero, List.set_cons_succ]
        refine rgn.Walk.ys (v := ?_) rfl rfl rfl ?_ ?_
        rotate_left 1
        · intro W' hW'
          have hs2 := HS2.out
          go_simp
          try with_reducible rfl
        try simp only [Act.put, List.setIfInBounds_toArray, List.set_cons_zero, List.set_cons_succ]
        refine rgn.Walk.es ?_
        refine rgn.stepE rfl rfl (fun K hK => ?_)
        go_simp
        refine hK _ _ (AnyW.any _ _) ?_
        clear hK K
        try simp only [Act.put, List.setIfInBounds_toArray, List.set_cons_zero, List.set_cons_succ]
        obtain ⟨wE, hwE⟩ : ∃ x, WR.alloc (.cells #[] 34) = x := ⟨_, rfl⟩
        rw [hwE]
        have oE : Only [] WR wE := by rw [← hwE]; exact (Only.refl [] WR).alloc _
        have HE : Hid (wE.ownsRow w2.heap.size 34 4 (.slice (some ⟨WR.heap.size, 0, none⟩) 0 0) 0 []) := hid ⟨by simp, .inr ⟨WR.heap.size, 0, #[], rfl, HSZ.out, by rw [← hwE]; exact Ob.new _ _ _, Nat.le_refl _, by unfold maxLen; omega, by simp, by simp⟩⟩
        have HEB : Hid (wE.heap.size = WR.heap.size + 1) := hid (by rw [← hwE]; simp)
        have HEL := HSZ
        replace QC := hid (QC.out.trans oE); replace HSZ := hid QC.out.size
        clear oE hwE
        refine rgn.Walk.es ?_
        refine rgn.stepE rfl rfl (fun K hK => ?_)
        refine opAppS _ rfl (.tmp 12) (.tmp 18) _ rfl elemS _ (.slice (some ⟨WR.heap.size, 0, none⟩) 0 0) 0 [] rfl HE.out A k c (rws Rt.enc (D.take k)) rfl (HR1.out.only_nil QC.out) HZ1.out HF1.out (by omega) (by unfold maxLen; omega) HSZ.out (fun v7 w7 hv7 hg7 hb7 => ?_)
        refine hK _ _ (AnyW.any _ _) ?_
        clear hK K
        try simp only [Act.put, List.setIfInBounds_toArray, List.set_cons_zero, List.set_cons_succ]
        have V7 := hid (show w7.ownsRow _ 34 4 v7 k (rws Rt.enc (D.take k)) from by simpa using hv7)
        replace QC := hid (QC.out.of_grown hg7 (fun jj hj2 => .inr (own_lt HE.out jj hj2).1)); replace HSZ := hid QC.out.size
        clear hv7 hg7 hb7
        refine rgn.Walk.es ?_
        refine rgn.stepE rfl rfl (fun K hK => ?_)
        refine opAppS _ rfl (.tmp 19) (.tmp 26) _ rfl elemS _ v7 k (rws Rt.enc (D.take k)) rfl V7.out A2 (n - (k + 1)) c2 (rws Rt.enc (D.drop (k + 1))) rfl (HR2.out.only_nil QC.out) HZ2.out HF2.out (by omega) (by unfold maxLen; omega) HSZ.out (fun v10 w10 hv10 hg10 hb10 => ?_)
        obtain ⟨A12, c12, e12, -, -, -, -, -, -⟩ := RdS.of_own hv10 (one3 D ⟨rn, rb, rv, rm⟩ k _ (fun u hu => by
          rcases List.mem_append.1 hu with hu | hu
          · exact .inl hu
          · exact .inr (.inr (by rw [← rws_drop enc_len D (k + 1) (by have := HKN.out; have := HN.out; omega)] at hu; rw [← rws_drop enc_len D k (by have := HKN.out; have := HN.out; omega)]; exact (List.drop_subset_drop_left _ (by omega)) hu))))
        have HE12 := hid e12
        rw [e12]
        refine hK _ _ (AnyW.any _ _) ?_
        clear hK K
        try simp only [Act.put, List.setIfInBounds_toArray, List.set_cons_zero, List.set_cons_succ]
        have HV12 : Hid (w10.ownsRow w.heap.size 34 4 v10 (k + (n - (k + 1))) (rws Rt.enc (D.take k ++ D.drop (k + 1)))) := hid (own_mono (by rw [rws_app]; exact hv10) HLw.out)
        replace QC := hid (QC.out.of_grown hg10 (fun jj hj2 => .inr (own_lt V7.out jj hj2).1))
        clear hv10 hg10 hb10 e12
        refine rgn.Walk.ys (v := ?_) rfl rfl rfl ?_ ?_
        rotate_left 1
        · intro W' hW'
          go_simp
          try with_reducible rfl
        try simp only [Act.put, List.setIfInBounds_toArray, List.set_cons_zero, List.set_cons_succ]
        refine rgn.Walk.ys (v := ?_) rfl rfl rfl ?_ ?_
        rotate_left 1
        · intro W' hW'
          go_simp
          try with_reducible rfl
        try simp only [Act.put, List.setIfInBounds_toArray, List.set_cons_zero, List.set_cons_succ]
        refine rgn.Walk.es ?_
        refine rgn.stepE rfl rfl (fun K hK => ?_)
        have HOC := hid (HO4.out.only QC.out (by simp))
        have k0 := HOC.out.cell 0; have f0 := HOC.out.frozen 0
        go_simp
        refine hK _ _ (AnyW.any _ _) ?_
        clear hK K k0 f0
        try simp only [Act.put, List.setIfInBounds_toArray, List.set_cons_zero, List.set_cons_succ]
        refine rgn.Walk.zs (NoPanic.normal ?_)
        go_wp2_with fail
        go_ret
        have hdp := del_perm D k HKN0.out
        have hsd : Srt (D.take k ++ D.drop (k + 1)) := by
          refine HS.out.sublist ?_
          have h1 : (D.drop (k + 1)).Sublist (D.drop k) := by rw [← List.drop_drop]; exact List.drop_sublist _ _
          have h2 := (List.Sublist.refl (D.take k)).append h1
          rwa [List.take_append_drop] at h2
        have hll : (D.take k ++ D.drop (k + 1)).length = n - 1 := by have := hdp.length_eq; rw [List.length_cons, HN.out] at this; omega
        have hst := dstep_put H.out (Q2.out.trans QC.out) HB.out HV12.out (by rw [hll]; omega)
        rw [HE12.out] at hst
        exact ⟨_, _, _, rfl, .inr ⟨rfl, D[k], List.getElem_mem HKN0.out, HKEY.out, hdp, hsd⟩, hst⟩
    · refine rgn.stepE rfl rfl (fun K hK => ?_)
      have qq := (HO4.out.only QC.out (by simp)).cell 0
      go_simp
      refine hK _ _ (AnyW.any _ _) ?_
      clear hK K qq
      try simp only [Act.put, List.setIfInBounds_toArray, List.set_cons_zero, List.set_cons_succ]
      refine rgn.Walk.ys (v := ?_) rfl rfl rfl ?_ ?_
      rotate_left 1
      · intro W' hW'
        have hs2 := HS2.out
        go_simp
        try with_reducible rfl
      try simp only [Act.put, List.setIfInBounds_toArray, List.set_cons_zero, List.set_cons_succ]
      refine rgn.Walk.bs ?_ ?_
      · refine rgn.stepE rfl rfl (fun K hK => ?_)
        go_simp
        refine hK _ _ (AnyW.any _ _) ?_
        clear hK K
        try simp only [Act.put, List.setIfInBounds_toArray, List.set_cons_zero, List.set_cons_succ]
        obtain ⟨wE, hwE⟩ : ∃ x, WR.alloc (.cells #[] 34) = x := ⟨_, rfl⟩
        rw [hwE]
        have oE : Only [] WR wE := by rw [← hwE]; exact (Only.refl [] WR).alloc _
        have HE : Hid (wE.ownsRow w2.heap.size 34 4 (.slice (some ⟨WR.heap.size, 0, none⟩) 0 0) 0 []) := hid ⟨by simp, .inr ⟨WR.heap.size, 0, #[], rfl, HSZ.out, by rw [← hwE]; exact Ob.new _ _ _, Nat.le_refl _, by unfold maxLen; omega, by simp, by simp⟩⟩
        have HEB : Hid (wE.heap.size = WR.heap.size + 1) := hid (by rw [← hwE]; simp)
        have HEL := HSZ
        replace QC := hid (QC.out.trans oE); replace HSZ := hid QC.out.size
        clear oE hwE
        refine rgn.Walk.es ?_
        refine rgn.stepE rfl rfl (fun K hK => ?_)
        have qq := (HO4.out.only QC.out (by simp)).cell 0
        go_simp
        refine hK _ _ (AnyW.any _ _) ?_
        clear hK K qq
        try simp only [Act.put, List.setIfInBounds_toArray, List.set_cons_zero, List.set_cons_succ]
        refine rgn.Walk.ys (v := ?_) rfl rfl rfl ?_ ?_
        rotate_left 1
        · intro W' hW'
          have hs1 := HS1.out
          go_simp
          try with_reducible rfl
        try simp only [Act.put, List.setIfInBounds_toArray, List.set_cons_zero, List.set_cons_succ]
        refine rgn.Walk.es ?_
        refine rgn.stepE rfl rfl (fun K hK => ?_)
        refine opAppS _ rfl (.tmp 12) (.tmp 18) _ rfl elemS _ (.slice (some ⟨WR.heap.size, 0, none⟩) 0 0) 0 [] rfl HE.out A k c (rws Rt.enc (D.take k)) rfl (HR1.out.only_nil QC.out) HZ1.out HF1.out (by omega) (by unfold maxLen; omega) HSZ.out (fun v7 w7 hv7 hg7 hb7 => ?_)
        refine hK _ _ (AnyW.any _ _) ?_
        clear hK K
        try simp only [Act.put, List.setIfInBounds_toArray, List.set_cons_zero, List.set_cons_succ]
        have V7 := hid (show w7.ownsRow _ 34 4 v7 k (rws Rt.enc (D.take k)) from by simpa using hv7)
        replace QC := hid (QC.out.of_grown hg7 (fun jj hj2 => .inr (own_lt HE.out jj hj2).1)); replace HSZ := hid QC.out.size
        clear hv7 hg7 hb7
        refine rgn.Walk.es ?_
        refine rgn.stepE rfl rfl (fun K hK => ?_)
        refine opAppS _ rfl (.tmp 19) (.tmp 26) _ rfl elemS _ v7 k (rws Rt.enc (D.take k)) rfl V7.out A2 (n - (k + 1)) c2 (rws Rt.enc (D.drop (k + 1))) rfl (HR2.out.only_nil QC.out) HZ2.out HF2.out (by omega) (by unfold maxLen; omega) HSZ.out (fun v10 w10 hv10 hg10 hb10 => ?_)
        obtain ⟨A12, c12, e12, -, -, -, -, -, -⟩ := RdS.of_own hv10 (one3 D ⟨rn, rb, rv, rm⟩ k _ (fun u hu => by
          rcases List.mem_append.1 hu with hu | hu
          · exact .inl hu
          · exact .inr (.inr (by rw [← rws_drop enc_len D (k + 1) (by have := HKN.out; have := HN.out; omega)] at hu; rw [← rws_drop enc_len D k (by have := HKN.out; have := HN.out; omega)]; exact (List.drop_subset_drop_left _ (by omega)) hu))))
        have HE12 := hid e12
        rw [e12]
        refine hK _ _ (AnyW.any _ _) ?_
        clear hK K
        try simp only [Act.put, List.setIfInBounds_toArray, List.set_cons_zero, List.set_cons_succ]
        have HV12 : Hid (w10.ownsRow w.heap.size 34 4 v10 (k + (n - (k + 1))) (rws Rt.enc (D.take k ++ D.drop (k + 1)))) := hid (own_mono (by rw [rws_app]; exact hv10) HLw.out)
        replace QC := hid (QC.out.of_grown hg10 (fun jj hj2 => .inr (own_lt V7.out jj hj2).1))
        clear hv10 hg10 hb10 e12
        refine rgn.Walk.ys (v := ?_) rfl rfl rfl ?_ ?_
        rotate_left 1
        · intro W' hW'
          go_simp
          try with_reducible rfl
        try simp only [Act.put, List.setIfInBounds_toArray, List.set_cons_zero, List.set_cons_succ]
        refine rgn.Walk.ys (v := ?_) rfl rfl rfl ?_ ?_
        rotate_left 1
        · intro W' hW'
          go_simp
          try with_reducible rfl
        try simp only [Act.put, List.setIfInBounds_toArray, List.set_cons_zero, List.set_cons_succ]
        refine rgn.Walk.es ?_
        refine rgn.stepE rfl rfl (fun K hK => ?_)
        have HOC := hid (HO4.out.only QC.out (by simp))
        have k0 := HOC.out.cell 0; have f0 := HOC.out.frozen 0
        go_simp
        refine hK _ _ (AnyW.any _ _) ?_
        clear hK K k0 f0
        try simp only [Act.put, List.setIfInBounds_toArray, List.set_cons_zero, List.set_cons_succ]
        refine rgn.Walk.zs (NoPanic.normal ?_)
        go_wp2_with fail
        go_ret
        have hdp := del_perm D k HKN0.out
        have hsd : Srt (D.take k ++ D.drop (k + 1)) := by
          refine HS.out.sublist ?_
          have h1 : (D.drop (k + 1)).Sublist (D.drop k) := by rw [← List.drop_drop]; exact List.drop_sublist _ _
          have h2 := (List.Sublist.refl (D.take k)).append h1
          rwa [List.take_append_drop] at h2
        have hll : (D.take k ++ D.drop (k + 1)).length = n - 1 := by have := hdp.length_eq; rw [List.length_cons, HN.out] at this; omega
        have hst := dstep_put H.out (Q2.out.trans QC.out) HB.out HV12.out (by rw [hll]; omega)
        rw [HE12.out] at hst
        exact ⟨_, _, _, rfl, .inr ⟨rfl, D[k], List.getElem_mem HKN0.out, HKEY.out, hdp, hsd⟩, hst⟩
      · refine rgn.stepE rfl rfl (fun K hK => ?_)
        have qq := (HO4.out.only QC.out (by simp)).cell 0
        go_simp
        refine hK _ _ (AnyW.any _ _) ?_
        clear hK K qq
        try simp only [Act.put, List.setIfInBounds_toArray, List.set_cons_zero, List.set_cons_succ]
        refine rgn.Walk.ys (v := ?_) rfl rfl rfl ?_ ?_
        rotate_left 1
        · intro W' hW'
          have hs1 := HS1.out
          go_simp
          try with_reducible rfl
        try simp only [Act.put, List.setIfInBounds_toArray, List.set_cons_zero, List.set_cons_succ]
        refine rgn.Walk.es ?_
        refine rgn.stepE rfl rfl (fun K hK => ?_)
        go_simp
        refine hK _ _ (AnyW.any _ _) ?_
        clear hK K
        try simp only [Act.put, List.setIfInBounds_toArray, List.set_cons_zero, List.set_cons_succ]
        obtain ⟨wE, hwE⟩ : ∃ x, WR.alloc (.cells #[] 34) = x := ⟨_, rfl⟩
        rw [hwE]
        have oE : Only [] WR wE := by rw [← hwE]; exact (Only.refl [] WR).alloc _
        have HE : Hid (wE.ownsRow w2.heap.size 34 4 (.slice (some ⟨WR.heap.size, 0, none⟩) 0 0) 0 []) := hid ⟨by simp, .inr ⟨WR.heap.size, 0, #[], rfl, HSZ.out, by rw [← hwE]; exact Ob.new _ _ _, Nat.le_refl _, by unfold maxLen; omega, by simp, by simp⟩⟩
        have HEB : Hid (wE.heap.size = WR.heap.size + 1) := hid (by rw [← hwE]; simp)
        have HEL := HSZ
        replace QC := hid (QC.out.trans oE); replace HSZ := hid QC.out.size
        clear oE hwE
        refine rgn.Walk.es ?_
        refine rgn.stepE rfl rfl (fun K hK => ?_)
        refine opAppS _ rfl (.tmp 12) (.tmp 18) _ rfl elemS _ (.slice (some ⟨WR.heap.size, 0, none⟩) 0 0) 0 [] rfl HE.out A k c (rws Rt.enc (D.take k)) rfl (HR1.out.only_nil QC.out) HZ1.out HF1.out (by omega) (by unfold maxLen; omega) HSZ.out (fun v7 w7 hv7 hg7 hb7 => ?_)
        refine hK _ _ (AnyW.any _ _) ?_
        clear hK K
        try simp only [Act.put, List.setIfInBounds_toArray, List.set_cons_zero, List.set_cons_succ]
        have V7 := hid (show w7.ownsRow _ 34 4 v7 k (rws Rt.enc (D.take k)) from by simpa using hv7)
        replace QC := hid (QC.out.of_grown hg7 (fun jj hj2 => .inr (own_lt HE.out jj hj2).1)); replace HSZ := hid QC.out.size
        clear hv7 hg7 hb7
        refine rgn.Walk.es ?_
        refine rgn.stepE rfl rfl (fun K hK => ?_)
        refine opAppS _ rfl (.tmp 19) (.tmp 26) _ rfl elemS _ v7 k (rws Rt.enc (D.take k)) rfl V7.out A2 (n - (k + 1)) c2 (rws Rt.enc (D.drop (k + 1))) rfl (HR2.out.only_nil QC.out) HZ2.out HF2.out (by omega) (by unfold maxLen; omega) HSZ.out (fun v10 w10 hv10 hg10 hb10 => ?_)
        obtain ⟨A12, c12, e12, -, -, -, -, -, -⟩ := RdS.of_own hv10 (one3 D ⟨rn, rb, rv, rm⟩ k _ (fun u hu => by
          rcases List.mem_append.1 hu with hu | hu
          · exact .inl hu
          · exact .inr (.inr (by rw [← rws_drop enc_len D (k + 1) (by have := HKN.out; have := HN.out; omega)] at hu; rw [← rws_drop enc_len D k (by have := HKN.out; have := HN.out; omega)]; exact (List.drop_subset_drop_left _ (by omega)) hu))))
        have HE12 := hid e12
        rw [e12]
        refine hK _ _ (AnyW.any _ _) ?_
        clear hK K
        try simp only [Act.put, List.setIfInBounds_toArray, List.set_cons_zero, List.set_cons_succ]
        have HV12 : Hid (w10.ownsRow w.heap.size 34 4 v10 (k + (n - (k + 1))) (rws Rt.enc (D.take k ++ D.drop (k + 1)))) := hid (own_mono (by rw [rws_app]; exact hv10) HLw.out)
        replace QC := hid (QC.out.of_grown hg10 (fun jj hj2 => .inr (own_lt V7.out jj hj2).1))
        clear hv10 hg10 hb10 e12
        refine rgn.Walk.ys (v := ?_) rfl rfl rfl ?_ ?_
        rotate_left 1
        · intro W' hW'
          go_simp
          try with_reducible rfl
        try simp only [Act.put, List.setIfInBounds_toArray, List.set_cons_zero, List.set_cons_succ]
        refine rgn.Walk.ys (v := ?_) rfl rfl rfl ?_ ?_
        rotate_left 1
        · intro W' hW'
          go_simp
          try with_reducible rfl
        try simp only [Act.put, List.setIfInBounds_toArray, List.set_cons_zero, List.set_cons_succ]
        refine rgn.Walk.es ?_
        refine rgn.stepE rfl rfl (fun K hK => ?_)
        have HOC := hid (HO4.out.only QC.out (by simp))
        have k0 := HOC.out.cell 0; have f0 := HOC.out.frozen 0
        go_simp
        refine hK _ _ (AnyW.any _ _) ?_
        clear hK K k0 f0
        try simp only [Act.put, List.setIfInBounds_toArray, List.set_cons_zero, List.set_cons_succ]
        refine rgn.Walk.zs (NoPanic.normal ?_)
        go_wp2_with fail
        go_ret
        have hdp := del_perm D k HKN0.out
        have hsd : Srt (D.take k ++ D.drop (k + 1)) := by
          refine HS.out.sublist ?_
          have h1 : (D.drop (k + 1)).Sublist (D.drop k) := by rw [← List.drop_drop]; exact List.drop_sublist _ _
          have h2 := (List.Sublist.refl (D.take k)).append h1
          rwa [List.take_append_drop] at h2
        have hll : (D.take k ++ D.drop (k + 1)).length = n - 1 := by have := hdp.length_eq; rw [List.length_cons, HN.out] at this; omega
        have hst := dstep_put H.out (Q2.out.trans QC.out) HB.out HV12.out (by rw [hll]; omega)
        rw [HE12.out] at hst
        exact ⟨_, _, _, rfl, .inr ⟨rfl, D[k], List.getElem_mem HKN0.out, HKEY.out, hdp, hsd⟩, hst⟩
end Go.Proofs.Ytoidpakenocllaa.rou
