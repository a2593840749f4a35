/-
  Chapter 8 (route): the document's Add, by a walk of its text. Conditions: none but those typed.
-/
import Derived.Test.YtoidpakenocllaaRtM
namespace Go.Proofs.Ytoidpakenocllaa.rou
set_option linter.unusedVariables false
set_option linter.unusedSimpArgs false
open Go.ChangeShapes Go.WideShapes Go.ChangeAt Go.RowKit Go.IntWalk Go.Lib
set_option maxRecDepth 100000 in
set_option maxHeartbeats 8000000 in
theorem addD (w : World) (B g : Nat) (v : Value) (D : List Rt) (r : Rt) (h : DTV w B g v D) (hs : Srt D) (hl : D.length ≤ 64) (hB : B ≤ w.heap.size) (ha : 0 ≤ r.net ∧ r.net ≤ 4294967295) :
    Calls Try.prog 9 #[.pointer (some ⟨g, 0, none⟩), .agg #[.int .u32 r.net, .int .i64 r.bits, .int .u32 r.via, .int .i64 r.met]] w (AddD B g v D r w) := by
  obtain ⟨rn, rb, rv, rm⟩ := r
  simp only at ha
  have H := hid h; have HS := hid hs; have HB := hid hB
  obtain ⟨W0, hW0⟩ : ∃ W0, w.alloc (.cells #[.int .u32 rn, .int .i64 rb, .int .u32 rv, .int .i64 rm] 34) = W0 := ⟨_, rfl⟩
  have OB : Hid (Ob W0 w.heap.size 34 #[.int .u32 rn, .int .i64 rb, .int .u32 rv, .int .i64 rm]) := hid (by rw [← hW0]; exact Ob.new _ _ _)
  have Q0 : Hid (Only [] w W0) := hid (by rw [← hW0]; exact (Only.refl [] w).alloc _)
  clear h hs hB
  by_cases h1 : 0 ≤ rb
  · by_cases h2 : rb ≤ 32
    · by_cases h3 : 0 ≤ rm
      · obtain ⟨b, rfl⟩ := Int.eq_ofNat_of_zero_le h1
        have hb32 : b ≤ 32 := by omega
        have HMZ := hid (not_mask rn b ha hb32)
        have c1 : ((b : Int) < 0) = False := by simp
        have c2 : ((32 : Int) < (b : Int)) = False := by simp; omega
        have c3 : (rm < 0) = False := by simp; omega
        go_enter Try.func9, Try.ntmps9
        go_wp2_with fail
        by_cases hm : bits .andNot .u32 rn (mz b) = 0
        · have zz : (bits BinOp.andNot IntKind.u32 rn (mz b) != 0) = false := by simpa using hm
          refine wp_region_noPanic ?_
          refine rgn.regionT (R := Only []) (by kernel_rfl) (Only.refl []) (fun _ _ _ => Only.trans) (fun _ _ _ _ _ h => h) (.y 0 (.y 1 (.y 2 (.y 3 (.y 4 (.y 5 (.y 6 (.y 7 (.y 8 (.y 9 (.y 10 (.y 11 (.y 12 (.y 13 (.y 14 (.y 15 (.y 16 (.y 17 (.e 18 (.y 19 (.y 20 (.y 21 .z)))))))))))))))))))))) (by kernel_rfl) (fun W hWd => ?_)
          have HWd := hid hWd; clear hWd
          have q8 : Only [] W0 W := Only.eq_drew (Only.refl [] _) HWd.out
          have OBW := hid (OB.out.only q8 (by simp)); have Q := hid (Q0.out.trans q8)
          clear q8 HWd
          refine rgn.Walk.ys (v := ?_) rfl rfl rfl ?_ ?_
          rotate_left 1
          · intro W' hW'
            go_simp
            try with_reducible rfl
          try simp only [Act.put, List.setIfInBounds_toArray, List.set_cons_zero, List.set_cons_succ]
          refine rgn.Walk.ys (v := ?_) rfl rfl rfl ?_ ?_
          rotate_left 1
          · intro W' hW'
            have q0 := hW'.keep (OBW.out.cell 1)
            go_simp
            try with_reducible rfl
          try simp only [Act.put, List.setIfInBounds_toArray, List.set_cons_zero, List.set_cons_succ]
          refine rgn.Walk.ys (v := ?_) rfl rfl rfl ?_ ?_
          rotate_left 1
          · intro W' hW'
            go_simp
            try with_reducible rfl
          try simp only [Act.put, List.setIfInBounds_toArray, List.set_cons_zero, List.set_cons_succ]
          refine rgn.Walk.ys (v := ?_) rfl rfl rfl ?_ ?_
          rotate_left 1
          · intro W' hW'
            go_simp
            try with_reducible rfl
          try simp only [Act.put, List.setIfInBounds_toArray, List.set_cons_zero, List.set_cons_succ]
          refine rgn.Walk.ys (v := ?_) rfl rfl rfl ?_ ?_
          rotate_left 1
          · intro W' hW'
            go_simp
            try with_reducible rfl
          try simp only [Act.put, List.setIfInBounds_toArray, List.set_cons_zero, List.set_cons_succ]
          refine rgn.Walk.ys (v := ?_) rfl rfl rfl ?_ ?_
          rotate_left 1
          · intro W' hW'
            have q0 := hW'.keep (OBW.out.cell 1)
            go_simp
            try with_reducible rfl
          try simp only [Act.put, List.setIfInBounds_toArray, List.set_cons_zero, List.set_cons_succ]
          refine rgn.Walk.ys (v := ?_) rfl rfl rfl ?_ ?_
          rotate_left 1
          · intro W' hW'
            go_simp
            try with_reducible rfl
          try simp only [Act.put, List.setIfInBounds_toArray, List.set_cons_zero, List.set_cons_succ]
          refine rgn.Walk.ys (v := ?_) rfl rfl rfl ?_ ?_
          rotate_left 1
          · intro W' hW'
            go_simp
            try with_reducible rfl
          try simp only [Act.put, List.setIfInBounds_toArray, List.set_cons_zero, List.set_cons_succ]
          refine rgn.Walk.ys (v := ?_) rfl rfl rfl ?_ ?_
          rotate_left 1
          · intro W' hW'
            go_simp
            try with_reducible rfl
          try simp only [Act.put, List.setIfInBounds_toArray, List.set_cons_zero, List.set_cons_succ]
          refine rgn.Walk.ys (v := ?_) rfl rfl rfl ?_ ?_
          rotate_left 1
          · intro W' hW'
            go_simp
            try with_reducible rfl
          try simp only [Act.put, List.setIfInBounds_toArray, List.set_cons_zero, List.set_cons_succ]
          refine rgn.Walk.ys (v := ?_) rfl rfl rfl ?_ ?_
          rotate_left 1
          · intro W' hW'
            have q0 := hW'.keep (OBW.out.cell 3)
            go_simp
            try with_reducible rfl
          try simp only [Act.put, List.setIfInBounds_toArray, List.set_cons_zero, List.set_cons_succ]
          refine rgn.Walk.ys (v := ?_) rfl rfl rfl ?_ ?_
          rotate_left 1
          · intro W' hW'
            go_simp
            try with_reducible rfl
          try simp only [Act.put, List.setIfInBounds_toArray, List.set_cons_zero, List.set_cons_succ]
          refine rgn.Walk.ys (v := ?_) rfl rfl rfl ?_ ?_
          rotate_left 1
          · intro W' hW'
            go_simp
            try with_reducible rfl
          try simp only [Act.put, List.setIfInBounds_toArray, List.set_cons_zero, List.set_cons_succ]
          refine rgn.Walk.ys (v := ?_) rfl rfl rfl ?_ ?_
          rotate_left 1
          · intro W' hW'
            go_simp
            try with_reducible rfl
          try simp only [Act.put, List.setIfInBounds_toArray, List.set_cons_zero, List.set_cons_succ]
          refine rgn.Walk.ys (v := ?_) rfl rfl rfl ?_ ?_
          rotate_left 1
          · intro W' hW'
            go_simp
            try with_reducible rfl
          try simp only [Act.put, List.setIfInBounds_toArray, List.set_cons_zero, List.set_cons_succ]
          refine rgn.Walk.ys (v := ?_) rfl rfl rfl ?_ ?_
          rotate_left 1
          · intro W' hW'
            have q0 := hW'.keep (OBW.out.cell 0)
            go_simp
            try with_reducible rfl
          try simp only [Act.put, List.setIfInBounds_toArray, List.set_cons_zero, List.set_cons_succ]
          refine rgn.Walk.ys (v := ?_) rfl rfl rfl ?_ ?_
          rotate_left 1
          · intro W' hW'
            go_simp
            try with_reducible rfl
          try simp only [Act.put, List.setIfInBounds_toArray, List.set_cons_zero, List.set_cons_succ]
          refine rgn.Walk.ys (v := ?_) rfl rfl rfl ?_ ?_
          rotate_left 1
          · intro W' hW'
            have q0 := hW'.keep (OBW.out.cell 1)
            go_simp
            try with_reducible rfl
          try simp only [Act.put, List.setIfInBounds_toArray, List.set_cons_zero, List.set_cons_succ]
          refine rgn.Walk.es ?_
          refine rgn.stepE rfl rfl (fun K hK => ?_)
          go_simp
          refine (mask1 _ b hb32).mono ?_
          rintro x w5 ⟨rfl, e5⟩
          subst e5
          refine hK _ _ (Only.refl _ _) ?_
          clear hK K
          try simp only [Act.put, List.setIfInBounds_toArray, List.set_cons_zero, List.set_cons_succ]
          refine rgn.Walk.ys (v := ?_) rfl rfl rfl ?_ ?_
          rotate_left 1
          · intro W' hW'
            go_simp
            try with_reducible rfl
          try simp only [Act.put, List.setIfInBounds_toArray, List.set_cons_zero, List.set_cons_succ]
          refine rgn.Walk.ys (v := ?_) rfl rfl rfl ?_ ?_
          rotate_left 1
          · intro W' hW'
            have zy := zz
            go_simp
            try with_reducible rfl
          try simp only [Act.put, List.setIfInBounds_toArray, List.set_cons_zero, List.set_cons_succ]
          refine rgn.Walk.ys (v := ?_) rfl rfl rfl ?_ ?_
          rotate_left 1
          · intro W' hW'
            go_simp
            try with_reducible rfl
          try simp only [Act.put, List.setIfInBounds_toArray, List.set_cons_zero, List.set_cons_succ]
          refine rgn.Walk.zs (NoPanic.normal ?_)
          clear c1 c2 c3
          have HVd : Hid (Vld ⟨rn, b, rv, rm⟩) := hid ⟨⟨by simp only; omega, by simp only; omega⟩, by simp only; omega, by simp only; rw [show ((b : Int)).toNat = b from by omega]; exact HMZ.out.1 hm⟩
          have g0 := OBW.out.cell 0; have g1 := OBW.out.cell 1; have g2 := OBW.out.cell 2; have g3 := OBW.out.cell 3
          clear hm zz
          go_wp2_with fail
          clear g0 g1 g2 g3
          have H1 := hid (H.out.nil Q.out)
          refine (spot1 W B g v D ⟨rn, b, rv, rm⟩ H1.out (by omega)).mono ?_
          rintro x w2 ⟨⟨i, rfl, hi⟩, o2⟩
          have OB2 := hid (OBW.out.only o2 (by simp)); have H2 := hid (H1.out.nil o2); have Q2 := hid (Q.out.trans o2)
          clear o2
          rcases hi with ⟨rfl, hno⟩ | ⟨k, hk, rfl, hkey⟩
          · have HNO := hid hno; clear hno
            obtain ⟨A, c, ev, -, -, -, hr, -, -⟩ := RdS.of_own H2.out.own (rws_one enc_one _)
            have HEV := hid ev
            have H3 := H2
            rw [ev] at H3
            have k0 := H3.out.ob.cell 0
            clear hr ev
            obtain ⟨n, hn⟩ : ∃ n, D.length = n := ⟨_, rfl⟩
            have HN := hid hn
            rw [hn] at H3 k0 hl
            clear hn
            by_cases hf : n = 64
            · subst hf
              go_wp2_with fail
              go_ret
              exact ⟨_, D, v, rfl, .inr (.inr (.inl ⟨rfl, HVd.out, HNO.out, by rw [HN.out]; exact Nat.le_refl _, rfl⟩)), H.out.same Q2.out⟩
            · have hge : ¬ (64 : Int) ≤ (n : Int) := by omega
              have hge2 : ¬ 64 ≤ n := by omega
              go_wp2_with fail
              clear k0 hge hge2
              go_loopw [5] (fun i wr => ∃ j : Nat, j ≤ n ∧ i = .int .i64 j ∧ Hid (∀ k (hk : k < D.length), k < j → Ahd D[k] ⟨rn, b, rv, rm⟩) ∧ Hid (Only [] w2 wr)) (fun i _ => n - (RowKit.intOf i).toNat)
              case atStart => exact ⟨0, by omega, rfl, hid (fun k hk h => absurd h (by omega)), hid (Only.refl _ _)⟩
              case round =>
                obtain ⟨j, hj, rfl, HA, HQ⟩ := hrel
                have HO := hid (H3.out.ob.only HQ.out (by simp)); have OB3 := hid (OB2.out.only HQ.out (by simp))
                have HV := hid (own_only_nil H3.out.own HQ.out)
                by_cases hjn : j < n
                · have hjl : j < D.length := by rw [HN.out]; exact hjn
                  obtain ⟨_, _, e9, -, -, -, hr9, -, -⟩ := RdS.of_own HV.out (rws_one enc_one _)
                  injection e9 with e91 e92 e93; subst e91; clear e93 e92
                  rw [HN.out] at hr9
                  obtain ⟨bb, off, rfl, -, hc1⟩ := hr9.elem HN.out enc_len (by omega) j hjl
                  obtain ⟨y, hy⟩ : ∃ y, D[j] = y := ⟨_, rfl⟩
                  have HY := hid hy
                  rw [hy] at hc1
                  obtain ⟨yn, yb, yv, ym⟩ := y
                  have d0 : wr.cell? ⟨bb, off + j * 4, none⟩ = some (.int .u32 yn) := by have := hc1 0 _ rfl; rwa [Nat.add_zero] at this
                  have d1 := hc1 1 _ rfl; have d2 := hc1 2 _ rfl; have d3 := hc1 3 _ rfl
                  have HD0 := hid d0; have HD1 := hid d1; have HD2 := hid d2; have HD3 := hid d3
                  clear hc1 hr9 hy d0 d1 d2 d3
                  cases hah : ahB ⟨yn, yb, yv, ym⟩ ⟨rn, b, rv, rm⟩
                  · have hlt : (j : Int) < (n : Int) := by omega
                    go_wp2_with fail
                    refine wp_region_noPanic ?_
                    refine rgn.regionT (R := Only []) (by kernel_rfl) (Only.refl []) (fun _ _ _ => Only.trans) (fun _ _ _ _ _ h => h) (.y 0 (.y 1 (.y 2 (.y 3 (.y 4 (.y 5 (.y 6 (.y 7 (.y 8 (.y 9 (.y 10 (.y 11 (.y 12 (.y 13 (.y 14 (.y 15 (.e 16 (.y 17 .z)))))))))))))))))) (by kernel_rfl) (fun W hWd => ?_)
                    have HWd := hid hWd; clear hWd
                    have q8 : Only [] wr W := Only.eq_drew (Only.refl [] _) HWd.out
                    have HOW := hid (HO.out.only q8 (by simp)); have OBW := hid (OB3.out.only q8 (by simp)); have QW := hid (HQ.out.trans q8)
                    have QD0 := hid (q8.keep HD0.out); have QD1 := hid (q8.keep HD1.out); have QD2 := hid (q8.keep HD2.out); have QD3 := hid (q8.keep HD3.out)
                    clear q8 HWd
                    refine rgn.Walk.ys (v := ?_) rfl rfl rfl ?_ ?_
                    rotate_left 1
                    · intro W' hW'
                      go_simp
                      try with_reducible rfl
                    try simp only [Act.put, List.setIfInBounds_toArray, List.set_cons_zero, List.set_cons_succ]
                    refine rgn.Walk.ys (v := ?_) rfl rfl rfl ?_ ?_
                    rotate_left 1
                    · intro W' hW'
                      go_simp
                      try with_reducible rfl
                    try simp only [Act.put, List.setIfInBounds_toArray, List.set_cons_zero, List.set_cons_succ]
                    refine rgn.Walk.ys (v := ?_) rfl rfl rfl ?_ ?_
                    rotate_left 1
                    · intro W' hW'
                      go_simp
                      try with_reducible rfl
                    try simp only [Act.put, List.setIfInBounds_toArray, List.set_cons_zero, List.set_cons_succ]
                    refine rgn.Walk.ys (v := ?_) rfl rfl rfl ?_ ?_
                    rotate_left 1
                    · intro W' hW'
                      go_simp
                      try with_reducible rfl
                    try simp only [Act.put, List.setIfInBounds_toArray, List.set_cons_zero, List.set_cons_succ]
                    refine rgn.Walk.ys (v := ?_) rfl rfl rfl ?_ ?_
                    rotate_left 1
                    · intro W' hW'
                      have q0 := hW'.keep (HOW.out.cell 0)
                      go_simp
                      try with_reducible rfl
                    try simp only [Act.put, List.setIfInBounds_toArray, List.set_cons_zero, List.set_cons_succ]
                    refine rgn.Walk.ys (v := ?_) rfl rfl rfl ?_ ?_
                    rotate_left 1
                    · intro W' hW'
                      go_simp
                      try with_reducible rfl
                    try simp only [Act.put, List.setIfInBounds_toArray, List.set_cons_zero, List.set_cons_succ]
                    refine rgn.Walk.ys (v := ?_) rfl rfl rfl ?_ ?_
                    rotate_left 1
                    · intro W' hW'
                      go_simp
                      try with_reducible rfl
                    try simp only [Act.put, List.setIfInBounds_toArray, List.set_cons_zero, List.set_cons_succ]
                    refine rgn.Walk.ys (v := ?_) rfl rfl rfl ?_ ?_
                    rotate_left 1
                    · intro W' hW'
                      go_simp
                      try with_reducible rfl
                    try simp only [Act.put, List.setIfInBounds_toArray, List.set_cons_zero, List.set_cons_succ]
                    refine rgn.Walk.ys (v := ?_) rfl rfl rfl ?_ ?_
                    rotate_left 1
                    · intro W' hW'
                      go_simp
                      try with_reducible rfl
                    try simp only [Act.put, List.setIfInBounds_toArray, List.set_cons_zero, List.set_cons_succ]
                    refine rgn.Walk.ys (v := ?_) rfl rfl rfl ?_ ?_
                    rotate_left 1
                    · intro W' hW'
                      go_simp
                      try with_reducible rfl
                    try simp only [Act.put, List.setIfInBounds_toArray, List.set_cons_zero, List.set_cons_succ]
                    refine rgn.Walk.ys (v := ?_) rfl rfl rfl ?_ ?_
                    rotate_left 1
                    · intro W' hW'
                      go_simp
                      try with_reducible rfl
                    try simp only [Act.put, List.setIfInBounds_toArray, List.set_cons_zero, List.set_cons_succ]
                    refine rgn.Walk.ys (v := ?_) rfl rfl rfl ?_ ?_
                    rotate_left 1
                    · intro W' hW'
                      have q0 := hW'.keep (HOW.out.cell 0)
                      go_simp
                      try with_reducible rfl
                    try simp only [Act.put, List.setIfInBounds_toArray, List.set_cons_zero, List.set_cons_succ]
                    refine rgn.Walk.ys (v := ?_) rfl rfl rfl ?_ ?_
                    rotate_left 1
                    · intro W' hW'
                      go_simp
                      try with_reducible rfl
                    try simp only [Act.put, List.setIfInBounds_toArray, List.set_cons_zero, List.set_cons_succ]
                    refine rgn.Walk.ys (v := ?_) rfl rfl rfl ?_ ?_
                    rotate_left 1
                    · intro W' hW'
                      go_simp
                      try with_reducible rfl
                    try simp only [Act.put, List.setIfInBounds_toArray, List.set_cons_zero, List.set_cons_succ]
                    refine rgn.Walk.ys (v := ?_) rfl rfl rfl ?_ ?_
                    rotate_left 1
                    · intro W' hW'
                      have q0 := hW'.keep (QD0.out)
                      have q1 := hW'.keep QD1.out
                      have q2 := hW'.keep QD2.out
                      have q3 := hW'.keep QD3.out
                      go_simp
                      try with_reducible rfl
                    try simp only [Act.put, List.setIfInBounds_toArray, List.set_cons_zero, List.set_cons_succ]
                    refine rgn.Walk.ys (v := ?_) rfl rfl rfl ?_ ?_
                    rotate_left 1
                    · intro W' hW'
                      have q0 := hW'.keep (OBW.out.cell 0)
                      have q1 := hW'.keep (OBW.out.cell 1)
                      have q2 := hW'.keep (OBW.out.cell 2)
                      have q3 := hW'.keep (OBW.out.cell 3)
                      go_simp
                      try with_reducible rfl
                    try simp only [Act.put, List.setIfInBounds_toArray, List.set_cons_zero, List.set_cons_succ]
                    refine rgn.Walk.es ?_
                    refine rgn.stepE rfl rfl (fun K hK => ?_)
                    go_simp
                    refine (ahead1 _ ⟨yn, yb, yv, ym⟩ ⟨rn, b, rv, rm⟩).mono ?_
                    rintro x w6 ⟨rfl, o6⟩
                    rw [hah]
                    refine hK _ _ o6 ?_
                    clear hK K
                    have QW := hid (QW.out.trans o6)
                    clear o6
                    try simp only [Act.put, List.setIfInBounds_toArray, List.set_cons_zero, List.set_cons_succ]
                    refine rgn.Walk.ys (v := ?_) rfl rfl rfl ?_ ?_
                    rotate_left 1
                    · intro W' hW'
                      go_simp
                      try with_reducible rfl
                    try simp only [Act.put, List.setIfInBounds_toArray, List.set_cons_zero, List.set_cons_succ]
                    refine rgn.Walk.zs (NoPanic.normal ?_)
                    replace HQ := QW
                    have HNA : Hid (∀ (h : j < D.length), ¬ Ahd D[j] ⟨rn, b, rv, rm⟩) := hid (fun h => by rw [HY.out]; exact (ahB_not _ _).1 hah)
                    clear hah
                    obtain ⟨hS1, hR1, hZ1, hF1⟩ := slTo w6 B (some ⟨bb, off, none⟩) n c j D (own_only_nil H3.out.own HQ.out) HN.out hj
                    obtain ⟨A2, c2, hS2, hR2, hZ2, hF2⟩ := slFrom w6 B (some ⟨bb, off, none⟩) n c j D (own_only_nil H3.out.own HQ.out) HN.out hj
                    have HS1 := hid hS1; have HR1 := hid hR1; have HZ1 := hid hZ1; have HF1 := hid hF1; have HS2 := hid hS2; have HR2 := hid hR2; have HZ2 := hid hZ2; have HF2 := hid hF2
                    have HO4 := hid (H3.out.ob.only HQ.out (by simp)); have OB4 := hid (OB2.out.only HQ.out (by simp))
                    have HLw : Hid (w.heap.size ≤ w6.heap.size) := hid (Nat.le_trans Q2.out.size HQ.out.size)
                    have HGl := hid HO4.out.lt; have HBl := hid OB4.out.lt
                    have HQ9 := hid (Q2.out.trans HQ.out)
                    clear hS1 hR1 hZ1 hF1 hS2 hR2 hZ2 hF2
                    go_wp2_with fail
                    refine wp_region_noPanic ?_
                    refine rgn.regionT (R := Below w6.heap.size) (by kernel_rfl) (Below.refl _) (fun _ _ _ => Below.trans) (fun _ _ _ _ _ h => h) (.y 1 (.y 2 (.y 3 (.y 4 (.y 5 (.y 6 (.y 8 (.b 0 9 (.b 7 9 (.e 9 (.e 10 (.e 11 .z))) (.e 7 (.e 10 (.e 11 .z)))) (.e 0 (.e 7 (.e 10 (.e 11 .z)))))))))))) (by kernel_rfl) (fun WR hWd => ?_)
                    have HWd := hid hWd; clear hWd
                    have q9 : Only [] w6 WR := Only.eq_drew (Only.refl [] _) HWd.out
                    have QC := hid q9; have HSZ := hid q9.size; have HOR := hid (HO4.out.only q9 (by simp)); have OBR := hid (OB4.out.only q9 (by simp))
                    clear q9 HWd
                    refine rgn.Walk.ys (v := ?_) rfl rfl rfl ?_ ?_
                    rotate_left 1
                    · intro W' hW'
                      go_simp
                      try with_reducible rfl
                    try simp only [Act.put, List.setIfInBounds_toArray, List.set_cons_zero, List.set_cons_succ]
                    refine rgn.Walk.ys (v := ?_) rfl rfl rfl ?_ ?_
                    rotate_left 1
                    · intro W' hW'
                      go_simp
                      try with_reducible rfl
                    try simp only [Act.put, List.setIfInBounds_toArray, List.set_cons_zero, List.set_cons_succ]
                    refine rgn.Walk.ys (v := ?_) rfl rfl rfl ?_ ?_
                    rotate_left 1
                    · intro W' hW'
                      go_simp
                      try with_reducible rfl
                    try simp only [Act.put, List.setIfInBounds_toArray, List.set_cons_zero, List.set_cons_succ]
                    refine rgn.Walk.ys (v := ?_) rfl rfl rfl ?_ ?_
                    rotate_left 1
                    · intro W' hW'
                      have q0 := (HOR.out.below hW' HGl.out).cell 0
                      go_simp
                      try with_reducible rfl
                    try simp only [Act.put, List.setIfInBounds_toArray, List.set_cons_zero, List.set_cons_succ]
                    refine rgn.Walk.ys (v := ?_) rfl rfl rfl ?_ ?_
                    rotate_left 1
                    · intro W' hW'
                      go_simp
                      try with_reducible rfl
                    try simp only [Act.put, List.setIfInBounds_toArray, List.set_cons_zero, List.set_cons_succ]
                    refine rgn.Walk.ys (v := ?_) rfl rfl rfl ?_ ?_
                    rotate_left 1
                    · intro W' hW'
                      have hs1 := HS1.out
                      go_simp
                      try with_reducible rfl
                    try simp only [Act.put, List.setIfInBounds_toArray, List.set_cons_zero, List.set_cons_succ]
                    refine rgn.Walk.ys (v := ?_) rfl rfl rfl ?_ ?_
                    rotate_left 1
                    · intro W' hW'
                      have q0 := (OBR.out.below hW' HBl.out).cell 0
                      have q1 := (OBR.out.below hW' HBl.out).cell 1
                      have q2 := (OBR.out.below hW' HBl.out).cell 2
                      have q3 := (OBR.out.below hW' HBl.out).cell 3
                      go_simp
                      try with_reducible rfl
                    try simp only [Act.put, List.setIfInBounds_toArray, List.set_cons_zero, List.set_cons_succ]
                    refine rgn.Walk.bs ?_ ?_
                    · refine rgn.stepE rfl rfl (fun K hK => ?_)
                      go_simp
                      refine hK _ _ (Below.alloc (Below.refl _ _) HSZ.out _) ?_
                      clear hK K
                      try simp only [Act.put, List.setIfInBounds_toArray, List.set_cons_zero, List.set_cons_succ]
                      obtain ⟨wE, hwE⟩ : ∃ x, WR.alloc (.cells #[] 34) = x := ⟨_, rfl⟩
                      rw [hwE]
                      have oE : Only [] WR wE := by rw [← hwE]; exact (Only.refl [] WR).alloc _
                      have HE : Hid (wE.ownsRow w6.heap.size 34 4 (.slice (some ⟨WR.heap.size, 0, none⟩) 0 0) 0 []) := hid ⟨by simp, .inr ⟨WR.heap.size, 0, #[], rfl, HSZ.out, by rw [← hwE]; exact Ob.new _ _ _, Nat.le_refl _, by unfold maxLen; omega, by simp, by simp⟩⟩
                      have HEB : Hid (wE.heap.size = WR.heap.size + 1) := hid (by rw [← hwE]; simp)
                      have HEL := HSZ
                      replace QC := hid (QC.out.trans oE); replace HSZ := hid QC.out.size
                      clear oE hwE
                      refine rgn.Walk.bs ?_ ?_
                      · refine rgn.stepE rfl rfl (fun K hK => ?_)
                        refine opAppS _ rfl (.tmp 59) (.tmp 65) _ rfl elemS _ (.slice (some ⟨WR.heap.size, 0, none⟩) 0 0) 0 [] rfl HE.out (some ⟨bb, off, none⟩) j c (rws Rt.enc (D.take j)) rfl (HR1.out.only_nil QC.out) HZ1.out HF1.out (by omega) (by unfold maxLen; omega) HSZ.out (fun v7 w7 hv7 hg7 hb7 => ?_)
                        refine hK _ _ (Below.grown (Below.refl _ _) hg7 HSZ.out (fun jj hj2 => (own_lt HE.out jj hj2).1)) ?_
                        clear hK K
                        try simp only [Act.put, List.setIfInBounds_toArray, List.set_cons_zero, List.set_cons_succ]
                        have V7 := hid (show w7.ownsRow _ 34 4 v7 j (rws Rt.enc (D.take j)) from by simpa using hv7)
                        replace QC := hid (QC.out.of_grown hg7 (fun jj hj2 => .inr (own_lt HE.out jj hj2).1)); replace HSZ := hid QC.out.size
                        clear hv7 hg7 hb7
                        refine rgn.Walk.es ?_
                        refine rgn.stepE rfl rfl (fun K hK => ?_)
                        go_simp
                        refine hK _ _ (Below.alloc (Below.refl _ _) HSZ.out _) ?_
                        clear hK K
                        try simp only [Act.put, List.setIfInBounds_toArray, List.set_cons_zero, List.set_cons_succ]
                        obtain ⟨wO, hwO⟩ : ∃ x, w7.alloc (.cells #[.int .u32 rn, .int .i64 (b : Int), .int .u32 rv, .int .i64 rm] 34) = x := ⟨_, rfl⟩
                        rw [hwO]
                        have oO : Only [] w7 wO := by rw [← hwO]; exact (Only.refl [] w7).alloc _
                        have R9 : Hid (RdS wO (some ⟨w7.heap.size, 0, none⟩) 1 4 (Rt.enc ⟨rn, b, rv, rm⟩)) := hid (by rw [← hwO]; exact rdS_rt w7 ⟨rn, b, rv, rm⟩)
                        have HRB : Hid (wO.heap.size = w7.heap.size + 1) := hid (by rw [← hwO]; simp)
                        replace V7 := hid (own_only_nil V7.out oO)
                        replace QC := hid (QC.out.trans oO); replace HSZ := hid QC.out.size
                        clear oO hwO
                        refine rgn.Walk.es ?_
                        refine rgn.stepE rfl rfl (fun K hK => ?_)
                        refine opAppS _ rfl (.tmp 66) (.tmp 68) _ rfl elemS _ v7 j (rws Rt.enc (D.take j)) rfl V7.out (some ⟨w7.heap.size, 0, none⟩) 1 1 (Rt.enc ⟨rn, b, rv, rm⟩) rfl R9.out (by intro e; cases e) (.inr ⟨_, _, rfl⟩) (by omega) (by unfold maxLen; omega) HSZ.out (fun v10 w10 hv10 hg10 hb10 => ?_)
                        refine hK _ _ (Below.grown (Below.refl _ _) hg10 HSZ.out (fun jj hj2 => (own_lt V7.out jj hj2).1)) ?_
                        clear hK K
                        try simp only [Act.put, List.setIfInBounds_toArray, List.set_cons_zero, List.set_cons_succ]
                        have V10 := hid hv10
                        replace QC := hid (QC.out.of_grown hg10 (fun jj hj2 => .inr (own_lt V7.out jj hj2).1)); replace HSZ := hid QC.out.size
                        clear hv10 hg10 hb10
                        refine rgn.Walk.es ?_
                        refine rgn.stepE rfl rfl (fun K hK => ?_)
                        go_simp
                        refine hK _ _ ((Below.refl _) _) ?_
                        clear hK K
                        try simp only [Act.put, List.setIfInBounds_toArray, List.set_cons_zero, List.set_cons_succ]
                        refine rgn.Walk.zs (NoPanic.normal ?_)
                        have hs2 := HS2.out
                        have HOC := hid (HO4.out.only QC.out (by simp))
                        have k0 := HOC.out.cell 0
                        have RC2 := hid (HR2.out.only_nil QC.out)
                        go_wp2_with (at_builtin; refine wpList_appS _ rfl (.tmp 71) (.tmp 77) _ rfl elemS w6.heap.size v10 (j + 1) (rws Rt.enc (D.take j) ++ Rt.enc ⟨rn, b, rv, rm⟩) rfl V10.out A2 (n - j) c2 (rws Rt.enc (D.drop j)) rfl RC2.out HZ2.out HF2.out (by omega) (by unfold maxLen; omega) HSZ.out ?_)
                        intro v12 w12 hv12 hg12 hb12
                        have Q12 := hid (show Only [] w6 w12 from QC.out.of_grown hg12 (fun jj hj2 => .inr (own_lt V10.out jj hj2).1))
                        obtain ⟨A12, c12, e12, -, -, -, -, -, -⟩ := RdS.of_own hv12 (one3 D ⟨rn, b, rv, rm⟩ j _ (by simp))
                        have HE12 := hid e12
                        rw [e12]
                        have HV12 : Hid (w12.ownsRow w.heap.size 34 4 v12 (j + 1 + (n - j)) (rws Rt.enc (D.take j ++ [⟨rn, b, rv, rm⟩] ++ D.drop j))) := hid (own_mono (by rw [rws_app, rws_app]; simpa [rws] using hv12) HLw.out)
                        clear hv12 hg12 hb12 e12 k0 hs2
                        have HO12 := hid (HO4.out.only Q12.out (by simp))
                        have k0 := HO12.out.cell 0; have f0 := HO12.out.frozen 0
                        go_wp2_with fail
                        go_ret
                        have hia := ins_at HS.out (by rw [HN.out]; exact hj) HA.out HNA.out HNO.out
                        have hst := dstep_put H.out (HQ9.out.trans Q12.out) HB.out HV12.out (by rw [hia.1.length_eq, List.length_cons, HN.out]; omega)
                        rw [HE12.out] at hst
                        exact ⟨_, _, _, rfl, .inr (.inr (.inr ⟨rfl, HVd.out, HNO.out, by rw [HN.out]; omega, hia.1, hia.2⟩)), hst⟩
                      · refine rgn.stepE rfl rfl (fun K hK => ?_)
                        go_simp
                        refine hK _ _ (Below.alloc (Below.refl _ _) HSZ.out _) ?_
                        clear hK K
                        try simp only [Act.put, List.setIfInBounds_toArray, List.set_cons_zero, List.set_cons_succ]
                        obtain ⟨wO, hwO⟩ : ∃ x, wE.alloc (.cells #[.int .u32 rn, .int .i64 (b : Int), .int .u32 rv, .int .i64 rm] 34) = x := ⟨_, rfl⟩
                        rw [hwO]
                        have oO : Only [] wE wO := by rw [← hwO]; exact (Only.refl [] wE).alloc _
                        have R9 : Hid (RdS wO (some ⟨wE.heap.size, 0, none⟩) 1 4 (Rt.enc ⟨rn, b, rv, rm⟩)) := hid (by rw [← hwO]; exact rdS_rt wE ⟨rn, b, rv, rm⟩)
                        have HRB : Hid (wO.heap.size = wE.heap.size + 1) := hid (by rw [← hwO]; simp)
                        replace HE := hid (own_only_nil HE.out oO)
                        replace QC := hid (QC.out.trans oO); replace HSZ := hid QC.out.size
                        clear oO hwO
                        refine rgn.Walk.es ?_
                        refine rgn.stepE rfl rfl (fun K hK => ?_)
                        refine opAppS _ rfl (.tmp 59) (.tmp 65) _ rfl elemS _ (.slice (some ⟨WR.heap.size, 0, none⟩) 0 0) 0 [] rfl HE.out (some ⟨bb, off, none⟩) j c (rws Rt.enc (D.take j)) rfl (HR1.out.only_nil QC.out) HZ1.out HF1.out (by omega) (by unfold maxLen; omega) HSZ.out (fun v7 w7 hv7 hg7 hb7 => ?_)
                        refine hK _ _ (Below.grown (Below.refl _ _) hg7 HSZ.out (fun jj hj2 => (own_lt HE.out jj hj2).1)) ?_
                        clear hK K
                        try simp only [Act.put, List.setIfInBounds_toArray, List.set_cons_zero, List.set_cons_succ]
                        have V7 := hid (show w7.ownsRow _ 34 4 v7 j (rws Rt.enc (D.take j)) from by simpa using hv7)
                        replace R9 := hid (R9.out.grown hg7 (fun bq oq e _ h => by
                          injection e with e; injection e with e
                          have h2 : WR.heap.size = bq := by simpa [Value.ownBlock] using h
                          have h3 := HEB.out; have h4 := HRB.out
                          omega))
                        replace QC := hid (QC.out.of_grown hg7 (fun jj hj2 => .inr (own_lt HE.out jj hj2).1)); replace HSZ := hid QC.out.size
                        clear hv7 hg7 hb7
                        refine rgn.Walk.es ?_
                        refine rgn.stepE rfl rfl (fun K hK => ?_)
                        refine opAppS _ rfl (.tmp 66) (.tmp 68) _ rfl elemS _ v7 j (rws Rt.enc (D.take j)) rfl V7.out (some ⟨wE.heap.size, 0, none⟩) 1 1 (Rt.enc ⟨rn, b, rv, rm⟩) rfl R9.out (by intro e; cases e) (.inr ⟨_, _, rfl⟩) (by omega) (by unfold maxLen; omega) HSZ.out (fun v10 w10 hv10 hg10 hb10 => ?_)
                        refine hK _ _ (Below.grown (Below.refl _ _) hg10 HSZ.out (fun jj hj2 => (own_lt V7.out jj hj2).1)) ?_
                        clear hK K
                        try simp only [Act.put, List.setIfInBounds_toArray, List.set_cons_zero, List.set_cons_succ]
                        have V10 := hid hv10
                        replace QC := hid (QC.out.of_grown hg10 (fun jj hj2 => .inr (own_lt V7.out jj hj2).1)); replace HSZ := hid QC.out.size
                        clear hv10 hg10 hb10
                        refine rgn.Walk.es ?_
                        refine rgn.stepE rfl rfl (fun K hK => ?_)
                        go_simp
                        refine hK _ _ ((Below.refl _) _) ?_
                        clear hK K
                        try simp only [Act.put, List.setIfInBounds_toArray, List.set_cons_zero, List.set_cons_succ]
                        refine rgn.Walk.zs (NoPanic.normal ?_)
                        have hs2 := HS2.out
                        have HOC := hid (HO4.out.only QC.out (by simp))
                        have k0 := HOC.out.cell 0
                        have RC2 := hid (HR2.out.only_nil QC.out)
                        go_wp2_with (at_builtin; refine wpList_appS _ rfl (.tmp 71) (.tmp 77) _ rfl elemS w6.heap.size v10 (j + 1) (rws Rt.enc (D.take j) ++ Rt.enc ⟨rn, b, rv, rm⟩) rfl V10.out A2 (n - j) c2 (rws Rt.enc (D.drop j)) rfl RC2.out HZ2.out HF2.out (by omega) (by unfold maxLen; omega) HSZ.out ?_)
                        intro v12 w12 hv12 hg12 hb12
                        have Q12 := hid (show Only [] w6 w12 from QC.out.of_grown hg12 (fun jj hj2 => .inr (own_lt V10.out jj hj2).1))
                        obtain ⟨A12, c12, e12, -, -, -, -, -, -⟩ := RdS.of_own hv12 (one3 D ⟨rn, b, rv, rm⟩ j _ (by simp))
                        have HE12 := hid e12
                        rw [e12]
                        have HV12 : Hid (w12.ownsRow w.heap.size 34 4 v12 (j + 1 + (n - j)) (rws Rt.enc (D.take j ++ [⟨rn, b, rv, rm⟩] ++ D.drop j))) := hid (own_mono (by rw [rws_app, rws_app]; simpa [rws] using hv12) HLw.out)
                        clear hv12 hg12 hb12 e12 k0 hs2
                        have HO12 := hid (HO4.out.only Q12.out (by simp))
                        have k0 := HO12.out.cell 0; have f0 := HO12.out.frozen 0
                        go_wp2_with fail
                        go_ret
                        have hia := ins_at HS.out (by rw [HN.out]; exact hj) HA.out HNA.out HNO.out
                        have hst := dstep_put H.out (HQ9.out.trans Q12.out) HB.out HV12.out (by rw [hia.1.length_eq, List.length_cons, HN.out]; omega)
                        rw [HE12.out] at hst
                        exact ⟨_, _, _, rfl, .inr (.inr (.inr ⟨rfl, HVd.out, HNO.out, by rw [HN.out]; omega, hia.1, hia.2⟩)), hst⟩
                    · refine rgn.stepE rfl rfl (fun K hK => ?_)
                      go_simp
                      refine hK _ _ (Below.alloc (Below.refl _ _) HSZ.out _) ?_
                      clear hK K
                      try simp only [Act.put, List.setIfInBounds_toArray, List.set_cons_zero, List.set_cons_succ]
                      obtain ⟨wO, hwO⟩ : ∃ x, WR.alloc (.cells #[.int .u32 rn, .int .i64 (b : Int), .int .u32 rv, .int .i64 rm] 34) = x := ⟨_, rfl⟩
                      rw [hwO]
                      have oO : Only [] WR wO := by rw [← hwO]; exact (Only.refl [] WR).alloc _
                      have R9 : Hid (RdS wO (some ⟨WR.heap.size, 0, none⟩) 1 4 (Rt.enc ⟨rn, b, rv, rm⟩)) := hid (by rw [← hwO]; exact rdS_rt WR ⟨rn, b, rv, rm⟩)
                      have HRB : Hid (wO.heap.size = WR.heap.size + 1) := hid (by rw [← hwO]; simp)
                      replace QC := hid (QC.out.trans oO); replace HSZ := hid QC.out.size
                      clear oO hwO
                      refine rgn.Walk.es ?_
                      refine rgn.stepE rfl rfl (fun K hK => ?_)
                      go_simp
                      refine hK _ _ (Below.alloc (Below.refl _ _) HSZ.out _) ?_
                      clear hK K
                      try simp only [Act.put, List.setIfInBounds_toArray, List.set_cons_zero, List.set_cons_succ]
                      obtain ⟨wE, hwE⟩ : ∃ x, wO.alloc (.cells #[] 34) = x := ⟨_, rfl⟩
                      rw [hwE]
                      have oE : Only [] wO wE := by rw [← hwE]; exact (Only.refl [] wO).alloc _
                      have HE : Hid (wE.ownsRow w6.heap.size 34 4 (.slice (some ⟨wO.heap.size, 0, none⟩) 0 0) 0 []) := hid ⟨by simp, .inr ⟨wO.heap.size, 0, #[], rfl, HSZ.out, by rw [← hwE]; exact Ob.new _ _ _, Nat.le_refl _, by unfold maxLen; omega, by simp, by simp⟩⟩
                      have HEB : Hid (wE.heap.size = wO.heap.size + 1) := hid (by rw [← hwE]; simp)
                      have HEL := HSZ
                      replace R9 := hid (R9.out.only_nil oE)
                      replace QC := hid (QC.out.trans oE); replace HSZ := hid QC.out.size
                      clear oE hwE
                      refine rgn.Walk.es ?_
                      refine rgn.stepE rfl rfl (fun K hK => ?_)
                      refine opAppS _ rfl (.tmp 59) (.tmp 65) _ rfl elemS _ (.slice (some ⟨wO.heap.size, 0, none⟩) 0 0) 0 [] rfl HE.out (some ⟨bb, off, none⟩) j c (rws Rt.enc (D.take j)) rfl (HR1.out.only_nil QC.out) HZ1.out HF1.out (by omega) (by unfold maxLen; omega) HSZ.out (fun v7 w7 hv7 hg7 hb7 => ?_)
                      refine hK _ _ (Below.grown (Below.refl _ _) hg7 HSZ.out (fun jj hj2 => (own_lt HE.out jj hj2).1)) ?_
                      clear hK K
                      try simp only [Act.put, List.setIfInBounds_toArray, List.set_cons_zero, List.set_cons_succ]
                      have V7 := hid (show w7.ownsRow _ 34 4 v7 j (rws Rt.enc (D.take j)) from by simpa using hv7)
                      replace R9 := hid (R9.out.grown hg7 (fun bq oq e _ h => by
                        injection e with e; injection e with e
                        have h2 : wO.heap.size = bq := by simpa [Value.ownBlock] using h
                        have h3 := HEB.out; have h4 := HRB.out
                        omega))
                      replace QC := hid (QC.out.of_grown hg7 (fun jj hj2 => .inr (own_lt HE.out jj hj2).1)); replace HSZ := hid QC.out.size
                      clear hv7 hg7 hb7
                      refine rgn.Walk.es ?_
                      refine rgn.stepE rfl rfl (fun K hK => ?_)
                      refine opAppS _ rfl (.tmp 66) (.tmp 68) _ rfl elemS _ v7 j (rws Rt.enc (D.take j)) rfl V7.out (some ⟨WR.heap.size, 0, none⟩) 1 1 (Rt.enc ⟨rn, b, rv, rm⟩) rfl R9.out (by intro e; cases e) (.inr ⟨_, _, rfl⟩) (by omega) (by unfold maxLen; omega) HSZ.out (fun v10 w10 hv10 hg10 hb10 => ?_)
                      refine hK _ _ (Below.grown (Below.refl _ _) hg10 HSZ.out (fun jj hj2 => (own_lt V7.out jj hj2).1)) ?_
                      clear hK K
                      try simp only [Act.put, List.setIfInBounds_toArray, List.set_cons_zero, List.set_cons_succ]
                      have V10 := hid hv10
                      replace QC := hid (QC.out.of_grown hg10 (fun jj hj2 => .inr (own_lt V7.out jj hj2).1)); replace HSZ := hid QC.out.size
                      clear hv10 hg10 hb10
                      refine rgn.Walk.es ?_
                      refine rgn.stepE rfl rfl (fun K hK => ?_)
                      go_simp
                      refine hK _ _ ((Below.refl _) _) ?_
                      clear hK K
                      try simp only [Act.put, List.setIfInBounds_toArray, List.set_cons_zero, List.set_cons_succ]
                      refine rgn.Walk.zs (NoPanic.normal ?_)
                      have hs2 := HS2.out
                      have HOC := hid (HO4.out.only QC.out (by simp))
                      have k0 := HOC.out.cell 0
                      have RC2 := hid (HR2.out.only_nil QC.out)
                      go_wp2_with (at_builtin; refine wpList_appS _ rfl (.tmp 71) (.tmp 77) _ rfl elemS w6.heap.size v10 (j + 1) (rws Rt.enc (D.take j) ++ Rt.enc ⟨rn, b, rv, rm⟩) rfl V10.out A2 (n - j) c2 (rws Rt.enc (D.drop j)) rfl RC2.out HZ2.out HF2.out (by omega) (by unfold maxLen; omega) HSZ.out ?_)
                      intro v12 w12 hv12 hg12 hb12
                      have Q12 := hid (show Only [] w6 w12 from QC.out.of_grown hg12 (fun jj hj2 => .inr (own_lt V10.out jj hj2).1))
                      obtain ⟨A12, c12, e12, -, -, -, -, -, -⟩ := RdS.of_own hv12 (one3 D ⟨rn, b, rv, rm⟩ j _ (by simp))
                      have HE12 := hid e12
                      rw [e12]
                      have HV12 : Hid (w12.ownsRow w.heap.size 34 4 v12 (j + 1 + (n - j)) (rws Rt.enc (D.take j ++ [⟨rn, b, rv, rm⟩] ++ D.drop j))) := hid (own_mono (by rw [rws_app, rws_app]; simpa [rws] using hv12) HLw.out)
                      clear hv12 hg12 hb12 e12 k0 hs2
                      have HO12 := hid (HO4.out.only Q12.out (by simp))
                      have k0 := HO12.out.cell 0; have f0 := HO12.out.frozen 0
                      go_wp2_with fail
                      go_ret
                      have hia := ins_at HS.out (by rw [HN.out]; exact hj) HA.out HNA.out HNO.out
                      have hst := dstep_put H.out (HQ9.out.trans Q12.out) HB.out HV12.out (by rw [hia.1.length_eq, List.length_cons, HN.out]; omega)
                      rw [HE12.out] at hst
                      exact ⟨_, _, _, rfl, .inr (.inr (.inr ⟨rfl, HVd.out, HNO.out, by rw [HN.out]; omega, hia.1, hia.2⟩)), hst⟩
                  · have hlt : (j : Int) < (n : Int) := by omega
                    go_wp2_with fail
                    refine wp_region_noPanic ?_
                    refine rgn.regionT (R := Only []) (by kernel_rfl) (Only.refl []) (fun _ _ _ => Only.trans) (fun _ _ _ _ _ h => h) (.y 0 (.y 1 (.y 2 (.y 3 (.y 4 (.y 5 (.y 6 (.y 7 (.y 8 (.y 9 (.y 10 (.y 11 (.y 12 (.y 13 (.y 14 (.y 15 (.e 16 (.y 17 .z)))))))))))))))))) (by kernel_rfl) (fun W hWd => ?_)
                    have HWd := hid hWd; clear hWd
                    have q8 : Only [] wr W := Only.eq_drew (Only.refl [] _) HWd.out
                    have HOW := hid (HO.out.only q8 (by simp)); have OBW := hid (OB3.out.only q8 (by simp)); have QW := hid (HQ.out.trans q8)
                    have QD0 := hid (q8.keep HD0.out); have QD1 := hid (q8.keep HD1.out); have QD2 := hid (q8.keep HD2.out); have QD3 := hid (q8.keep HD3.out)
                    clear q8 HWd
                    refine rgn.Walk.ys (v := ?_) rfl rfl rfl ?_ ?_
                    rotate_left 1
                    · intro W' hW'
                      go_simp
                      try with_reducible rfl
                    try simp only [Act.put, List.setIfInBounds_toArray, List.set_cons_zero, List.set_cons_succ]
                    refine rgn.Walk.ys (v := ?_) rfl rfl rfl ?_ ?_
                    rotate_left 1
                    · intro W' hW'
                      go_simp
                      try with_reducible rfl
                    try simp only [Act.put, List.setIfInBounds_toArray, List.set_cons_zero, List.set_cons_succ]
                    refine rgn.Walk.ys (v := ?_) rfl rfl rfl ?_ ?_
                    rotate_left 1
                    · intro W' hW'
                      go_simp
                      try with_reducible rfl
                    try simp only [Act.put, List.setIfInBounds_toArray, List.set_cons_zero, List.set_cons_succ]
                    refine rgn.Walk.ys (v := ?_) rfl rfl rfl ?_ ?_
                    rotate_left 1
                    · intro W' hW'
                      go_simp
                      try with_reducible rfl
                    try simp only [Act.put, List.setIfInBounds_toArray, List.set_cons_zero, List.set_cons_succ]
                    refine rgn.Walk.ys (v := ?_) rfl rfl rfl ?_ ?_
                    rotate_left 1
                    · intro W' hW'
                      have q0 := hW'.keep (HOW.out.cell 0)
                      go_simp
                      try with_reducible rfl
                    try simp only [Act.put, List.setIfInBounds_toArray, List.set_cons_zero, List.set_cons_succ]
                    refine rgn.Walk.ys (v := ?_) rfl rfl rfl ?_ ?_
                    rotate_left 1
                    · intro W' hW'
                      go_simp
                      try with_reducible rfl
                    try simp only [Act.put, List.setIfInBounds_toArray, List.set_cons_zero, List.set_cons_succ]
                    refine rgn.Walk.ys (v := ?_) rfl rfl rfl ?_ ?_
                    rotate_left 1
                    · intro W' hW'
                      go_simp
                      try with_reducible rfl
                    try simp only [Act.put, List.setIfInBounds_toArray, List.set_cons_zero, List.set_cons_succ]
                    refine rgn.Walk.ys (v := ?_) rfl rfl rfl ?_ ?_
                    rotate_left 1
                    · intro W' hW'
                      go_simp
                      try with_reducible rfl
                    try simp only [Act.put, List.setIfInBounds_toArray, List.set_cons_zero, List.set_cons_succ]
                    refine rgn.Walk.ys (v := ?_) rfl rfl rfl ?_ ?_
                    rotate_left 1
                    · intro W' hW'
                      go_simp
                      try with_reducible rfl
                    try simp only [Act.put, List.setIfInBounds_toArray, List.set_cons_zero, List.set_cons_succ]
                    refine rgn.Walk.ys (v := ?_) rfl rfl rfl ?_ ?_
                    rotate_left 1
                    · intro W' hW'
                      go_simp
                      try with_reducible rfl
                    try simp only [Act.put, List.setIfInBounds_toArray, List.set_cons_zero, List.set_cons_succ]
                    refine rgn.Walk.ys (v := ?_) rfl rfl rfl ?_ ?_
                    rotate_left 1
                    · intro W' hW'
                      go_simp
                      try with_reducible rfl
                    try simp only [Act.put, List.setIfInBounds_toArray, List.set_cons_zero, List.set_cons_succ]
                    refine rgn.Walk.ys (v := ?_) rfl rfl rfl ?_ ?_
                    rotate_left 1
                    · intro W' hW'
                      have q0 := hW'.keep (HOW.out.cell 0)
                      go_simp
                      try with_reducible rfl
                    try simp only [Act.put, List.setIfInBounds_toArray, List.set_cons_zero, List.set_cons_succ]
                    refine rgn.Walk.ys (v := ?_) rfl rfl rfl ?_ ?_
                    rotate_left 1
                    · intro W' hW'
                      go_simp
                      try with_reducible rfl
                    try simp only [Act.put, List.setIfInBounds_toArray, List.set_cons_zero, List.set_cons_succ]
                    refine rgn.Walk.ys (v := ?_) rfl rfl rfl ?_ ?_
                    rotate_left 1
                    · intro W' hW'
                      go_simp
                      try with_reducible rfl
                    try simp only [Act.put, List.setIfInBounds_toArray, List.set_cons_zero, List.set_cons_succ]
                    refine rgn.Walk.ys (v := ?_) rfl rfl rfl ?_ ?_
                    rotate_left 1
                    · intro W' hW'
                      have q0 := hW'.keep (QD0.out)
                      have q1 := hW'.keep QD1.out
                      have q2 := hW'.keep QD2.out
                      have q3 := hW'.keep QD3.out
                      go_simp
                      try with_reducible rfl
                    try simp only [Act.put, List.setIfInBounds_toArray, List.set_cons_zero, List.set_cons_succ]
                    refine rgn.Walk.ys (v := ?_) rfl rfl rfl ?_ ?_
                    rotate_left 1
                    · intro W' hW'
                      have q0 := hW'.keep (OBW.out.cell 0)
                      have q1 := hW'.keep (OBW.out.cell 1)
                      have q2 := hW'.keep (OBW.out.cell 2)
                      have q3 := hW'.keep (OBW.out.cell 3)
                      go_simp
                      try with_reducible rfl
                    try simp only [Act.put, List.setIfInBounds_toArray, List.set_cons_zero, List.set_cons_succ]
                    refine rgn.Walk.es ?_
                    refine rgn.stepE rfl rfl (fun K hK => ?_)
                    go_simp
                    refine (ahead1 _ ⟨yn, yb, yv, ym⟩ ⟨rn, b, rv, rm⟩).mono ?_
                    rintro x w6 ⟨rfl, o6⟩
                    rw [hah]
                    refine hK _ _ o6 ?_
                    clear hK K
                    have QW := hid (QW.out.trans o6)
                    clear o6
                    try simp only [Act.put, List.setIfInBounds_toArray, List.set_cons_zero, List.set_cons_succ]
                    refine rgn.Walk.ys (v := ?_) rfl rfl rfl ?_ ?_
                    rotate_left 1
                    · intro W' hW'
                      go_simp
                      try with_reducible rfl
                    try simp only [Act.put, List.setIfInBounds_toArray, List.set_cons_zero, List.set_cons_succ]
                    refine rgn.Walk.zs (NoPanic.normal ?_)
                    have HA2 : Hid (∀ k (hk : k < D.length), k < j + 1 → Ahd D[k] ⟨rn, b, rv, rm⟩) := hid (fun k hk h9 => by
                      rcases Nat.lt_or_ge k j with h8 | h8
                      · exact HA.out k hk h8
                      · obtain rfl : k = j := by omega
                        rw [HY.out]; exact (ahB_iff _ _).1 hah)
                    clear hah
                    go_wp2_with fail
                    go_roundw
                    case rel => exact ⟨j + 1, by omega, by first | rfl | go_num, HA2, QW⟩
                    case measure => simp [RowKit.intOf]; omega
                · have hnl : ¬ (j : Int) < (n : Int) := by omega
                  go_wp2_with fail
                  refine wp_region_noPanic ?_
                  refine rgn.regionT (R := Only []) (by kernel_rfl) (Only.refl []) (fun _ _ _ => Only.trans) (fun _ _ _ _ _ h => h) (.y 0 (.y 1 (.y 2 (.y 3 (.y 4 (.y 5 (.y 6 (.y 7 (.y 8 (.y 9 (.y 10 (.y 11 (.y 12 (.y 13 (.y 14 (.y 15 (.e 16 (.y 17 .z)))))))))))))))))) (by kernel_rfl) (fun W hWd => ?_)
                  have HWd := hid hWd; clear hWd
                  have q8 : Only [] wr W := Only.eq_drew (Only.refl [] _) HWd.out
                  have HOW := hid (HO.out.only q8 (by simp)); have OBW := hid (OB3.out.only q8 (by simp)); have QW := hid (HQ.out.trans q8)
                  clear q8 HWd
                  refine rgn.Walk.ys (v := ?_) rfl rfl rfl ?_ ?_
                  rotate_left 1
                  · intro W' hW'
                    go_simp
                    try with_reducible rfl
                  try simp only [Act.put, List.setIfInBounds_toArray, List.set_cons_zero, List.set_cons_succ]
                  refine rgn.Walk.ys (v := ?_) rfl rfl rfl ?_ ?_
                  rotate_left 1
                  · intro W' hW'
                    go_simp
                    try with_reducible rfl
                  try simp only [Act.put, List.setIfInBounds_toArray, List.set_cons_zero, List.set_cons_succ]
                  refine rgn.Walk.ys (v := ?_) rfl rfl rfl ?_ ?_
                  rotate_left 1
                  · intro W' hW'
                    go_simp
                    try with_reducible rfl
                  try simp only [Act.put, List.setIfInBounds_toArray, List.set_cons_zero, List.set_cons_succ]
                  refine rgn.Walk.ys (v := ?_) rfl rfl rfl ?_ ?_
                  rotate_left 1
                  · intro W' hW'
                    go_simp
                    try with_reducible rfl
                  try simp only [Act.put, List.setIfInBounds_toArray, List.set_cons_zero, List.set_cons_succ]
                  refine rgn.Walk.ys (v := ?_) rfl rfl rfl ?_ ?_
                  rotate_left 1
                  · intro W' hW'
                    have q0 := hW'.keep (HOW.out.cell 0)
                    go_simp
                    try with_reducible rfl
                  try simp only [Act.put, List.setIfInBounds_toArray, List.set_cons_zero, List.set_cons_succ]
                  refine rgn.Walk.ys (v := ?_) rfl rfl rfl ?_ ?_
                  rotate_left 1
                  · intro W' hW'
                    go_simp
                    try with_reducible rfl
                  try simp only [Act.put, List.setIfInBounds_toArray, List.set_cons_zero, List.set_cons_succ]
                  refine rgn.Walk.ys (v := ?_) rfl rfl rfl ?_ ?_
                  rotate_left 1
                  · intro W' hW'
                    go_simp
                    try with_reducible rfl
                  try simp only [Act.put, List.setIfInBounds_toArray, List.set_cons_zero, List.set_cons_succ]
                  refine rgn.Walk.ys (v := ?_) rfl rfl rfl ?_ ?_
                  rotate_left 1
                  · intro W' hW'
                    go_simp
                    try with_reducible rfl
                  try simp only [Act.put, List.setIfInBounds_toArray, List.set_cons_zero, List.set_cons_succ]
                  refine rgn.Walk.yn rfl rfl rfl ?_
                  try simp only [Act.put, List.setIfInBounds_toArray, List.set_cons_zero, List.set_cons_succ]
                  refine rgn.Walk.yn rfl rfl rfl ?_
                  try simp only [Act.put, List.setIfInBounds_toArray, List.set_cons_zero, List.set_cons_succ]
                  refine rgn.Walk.yn rfl rfl rfl ?_
                  try simp only [Act.put, List.setIfInBounds_toArray, List.set_cons_zero, List.set_cons_succ]
                  refine rgn.Walk.yn rfl rfl rfl ?_
                  try simp only [Act.put, List.setIfInBounds_toArray, List.set_cons_zero, List.set_cons_succ]
                  refine rgn.Walk.yn rfl rfl rfl ?_
                  try simp only [Act.put, List.setIfInBounds_toArray, List.set_cons_zero, List.set_cons_succ]
                  refine rgn.Walk.yn rfl rfl rfl ?_
                  try simp only [Act.put, List.setIfInBounds_toArray, List.set_cons_zero, List.set_cons_succ]
                  refine rgn.Walk.yn rfl rfl rfl ?_
                  try simp only [Act.put, List.setIfInBounds_toArray, List.set_cons_zero, List.set_cons_succ]
                  refine rgn.Walk.yn rfl rfl rfl ?_
                  try simp only [Act.put, List.setIfInBounds_toArray, List.set_cons_zero, List.set_cons_succ]
                  refine rgn.Walk.es (rgn.stepN (Only.refl []) rfl rfl rfl ?_)
                  try simp only [Act.put, List.setIfInBounds_toArray, List.set_cons_zero, List.set_cons_succ]
                  refine rgn.Walk.ys (v := ?_) rfl rfl rfl ?_ ?_
                  rotate_left 1
                  · intro W' hW'
                    go_simp
                    try with_reducible rfl
                  try simp only [Act.put, List.setIfInBounds_toArray, List.set_cons_zero, List.set_cons_succ]
                  refine rgn.Walk.zs (NoPanic.normal ?_)
                  replace HQ := QW
                  have HNA : Hid (∀ (h : j < D.length), ¬ Ahd D[j] ⟨rn, b, rv, rm⟩) := hid (fun h => by have := HN.out; omega)
                  obtain ⟨hS1, hR1, hZ1, hF1⟩ := slTo W B A n c j D (own_only_nil H3.out.own HQ.out) HN.out hj
                  obtain ⟨A2, c2, hS2, hR2, hZ2, hF2⟩ := slFrom W B A n c j D (own_only_nil H3.out.own HQ.out) HN.out hj
                  have HS1 := hid hS1; have HR1 := hid hR1; have HZ1 := hid hZ1; have HF1 := hid hF1; have HS2 := hid hS2; have HR2 := hid hR2; have HZ2 := hid hZ2; have HF2 := hid hF2
                  have HO4 := hid (H3.out.ob.only HQ.out (by simp)); have OB4 := hid (OB2.out.only HQ.out (by simp))
                  have HLw : Hid (w.heap.size ≤ W.heap.size) := hid (Nat.le_trans Q2.out.size HQ.out.size)
                  have HGl := hid HO4.out.lt; have HBl := hid OB4.out.lt
                  have HQ9 := hid (Q2.out.trans HQ.out)
                  clear hS1 hR1 hZ1 hF1 hS2 hR2 hZ2 hF2
                  go_wp2_with fail
                  refine wp_region_noPanic ?_
                  refine rgn.regionT (R := Below W.heap.size) (by kernel_rfl) (Below.refl _) (fun _ _ _ => Below.trans) (fun _ _ _ _ _ h => h) (.y 1 (.y 2 (.y 3 (.y 4 (.y 5 (.y 6 (.y 8 (.b 0 9 (.b 7 9 (.e 9 (.e 10 (.e 11 .z))) (.e 7 (.e 10 (.e 11 .z)))) (.e 0 (.e 7 (.e 10 (.e 11 .z)))))))))))) (by kernel_rfl) (fun WR hWd => ?_)
                  have HWd := hid hWd; clear hWd
                  have q9 : Only [] W WR := Only.eq_drew (Only.refl [] _) HWd.out
                  have QC := hid q9; have HSZ := hid q9.size; have HOR := hid (HO4.out.only q9 (by simp)); have OBR := hid (OB4.out.only q9 (by simp))
                  clear q9 HWd
                  refine rgn.Walk.ys (v := ?_) rfl rfl rfl ?_ ?_
                  rotate_left 1
                  · intro W' hW'
                    go_simp
                    try with_reducible rfl
                  try simp only [Act.put, List.setIfInBounds_toArray, List.set_cons_zero, List.set_cons_succ]
                  refine rgn.Walk.ys (v := ?_) rfl rfl rfl ?_ ?_
                  rotate_left 1
                  · intro W' hW'
                    go_simp
                    try with_reducible rfl
                  try simp only [Act.put, List.setIfInBounds_toArray, List.set_cons_zero, List.set_cons_succ]
                  refine rgn.Walk.ys (v := ?_) rfl rfl rfl ?_ ?_
                  rotate_left 1
                  · intro W' hW'
                    go_simp
                    try with_reducible rfl
                  try simp only [Act.put, List.setIfInBounds_toArray, List.set_cons_zero, List.set_cons_succ]
                  refine rgn.Walk.ys (v := ?_) rfl rfl rfl ?_ ?_
                  rotate_left 1
                  · intro W' hW'
                    have q0 := (HOR.out.below hW' HGl.out).cell 0
                    go_simp
                    try with_reducible rfl
                  try simp only [Act.put, List.setIfInBounds_toArray, List.set_cons_zero, List.set_cons_succ]
                  refine rgn.Walk.ys (v := ?_) rfl rfl rfl ?_ ?_
                  rotate_left 1
                  · intro W' hW'
                    go_simp
                    try with_reducible rfl
                  try simp only [Act.put, List.setIfInBounds_toArray, List.set_cons_zero, List.set_cons_succ]
                  refine rgn.Walk.ys (v := ?_) rfl rfl rfl ?_ ?_
                  rotate_left 1
                  · intro W' hW'
                    have hs1 := HS1.out
                    go_simp
                    try with_reducible rfl
                  try simp only [Act.put, List.setIfInBounds_toArray, List.set_cons_zero, List.set_cons_succ]
                  refine rgn.Walk.ys (v := ?_) rfl rfl rfl ?_ ?_
                  rotate_left 1
                  · intro W' hW'
                    have q0 := (OBR.out.below hW' HBl.out).cell 0
                    have q1 := (OBR.out.below hW' HBl.out).cell 1
                    have q2 := (OBR.out.below hW' HBl.out).cell 2
                    have q3 := (OBR.out.below hW' HBl.out).cell 3
                    go_simp
                    try with_reducible rfl
                  try simp only [Act.put, List.setIfInBounds_toArray, List.set_cons_zero, List.set_cons_succ]
                  refine rgn.Walk.bs ?_ ?_
                  · refine rgn.stepE rfl rfl (fun K hK => ?_)
                    go_simp
                    refine hK _ _ (Below.alloc (Below.refl _ _) HSZ.out _) ?_
                    clear hK K
                    try simp only [Act.put, List.setIfInBounds_toArray, List.set_cons_zero, List.set_cons_succ]
                    obtain ⟨wE, hwE⟩ : ∃ x, WR.alloc (.cells #[] 34) = x := ⟨_, rfl⟩
                    rw [hwE]
                    have oE : Only [] WR wE := by rw [← hwE]; exact (Only.refl [] WR).alloc _
                    have HE : Hid (wE.ownsRow W.heap.size 34 4 (.slice (some ⟨WR.heap.size, 0, none⟩) 0 0) 0 []) := hid ⟨by simp, .inr ⟨WR.heap.size, 0, #[], rfl, HSZ.out, by rw [← hwE]; exact Ob.new _ _ _, Nat.le_refl _, by unfold maxLen; omega, by simp, by simp⟩⟩
                    have HEB : Hid (wE.heap.size = WR.heap.size + 1) := hid (by rw [← hwE]; simp)
                    have HEL := HSZ
                    replace QC := hid (QC.out.trans oE); replace HSZ := hid QC.out.size
                    clear oE hwE
                    refine rgn.Walk.bs ?_ ?_
                    · refine rgn.stepE rfl rfl (fun K hK => ?_)
                      refine opAppS _ rfl (.tmp 59) (.tmp 65) _ rfl elemS _ (.slice (some ⟨WR.heap.size, 0, none⟩) 0 0) 0 [] rfl HE.out A j c (rws Rt.enc (D.take j)) rfl (HR1.out.only_nil QC.out) HZ1.out HF1.out (by omega) (by unfold maxLen; omega) HSZ.out (fun v7 w7 hv7 hg7 hb7 => ?_)
                      refine hK _ _ (Below.grown (Below.refl _ _) hg7 HSZ.out (fun jj hj2 => (own_lt HE.out jj hj2).1)) ?_
                      clear hK K
                      try simp only [Act.put, List.setIfInBounds_toArray, List.set_cons_zero, List.set_cons_succ]
                      have V7 := hid (show w7.ownsRow _ 34 4 v7 j (rws Rt.enc (D.take j)) from by simpa using hv7)
                      replace QC := hid (QC.out.of_grown hg7 (fun jj hj2 => .inr (own_lt HE.out jj hj2).1)); replace HSZ := hid QC.out.size
                      clear hv7 hg7 hb7
                      refine rgn.Walk.es ?_
                      refine rgn.stepE rfl rfl (fun K hK => ?_)
                      go_simp
                      refine hK _ _ (Below.alloc (Below.refl _ _) HSZ.out _) ?_
                      clear hK K
                      try simp only [Act.put, List.setIfInBounds_toArray, List.set_cons_zero, List.set_cons_succ]
                      obtain ⟨wO, hwO⟩ : ∃ x, w7.alloc (.cells #[.int .u32 rn, .int .i64 (b : Int), .int .u32 rv, .int .i64 rm] 34) = x := ⟨_, rfl⟩
                      rw [hwO]
                      have oO : Only [] w7 wO := by rw [← hwO]; exact (Only.refl [] w7).alloc _
                      have R9 : Hid (RdS wO (some ⟨w7.heap.size, 0, none⟩) 1 4 (Rt.enc ⟨rn, b, rv, rm⟩)) := hid (by rw [← hwO]; exact rdS_rt w7 ⟨rn, b, rv, rm⟩)
                      have HRB : Hid (wO.heap.size = w7.heap.size + 1) := hid (by rw [← hwO]; simp)
                      replace V7 := hid (own_only_nil V7.out oO)
                      replace QC := hid (QC.out.trans oO); replace HSZ := hid QC.out.size
                      clear oO hwO
                      refine rgn.Walk.es ?_
                      refine rgn.stepE rfl rfl (fun K hK => ?_)
                      refine opAppS _ rfl (.tmp 66) (.tmp 68) _ rfl elemS _ v7 j (rws Rt.enc (D.take j)) rfl V7.out (some ⟨w7.heap.size, 0, none⟩) 1 1 (Rt.enc ⟨rn, b, rv, rm⟩) rfl R9.out (by intro e; cases e) (.inr ⟨_, _, rfl⟩) (by omega) (by unfold maxLen; omega) HSZ.out (fun v10 w10 hv10 hg10 hb10 => ?_)
                      refine hK _ _ (Below.grown (Below.refl _ _) hg10 HSZ.out (fun jj hj2 => (own_lt V7.out jj hj2).1)) ?_
                      clear hK K
                      try simp only [Act.put, List.setIfInBounds_toArray, List.set_cons_zero, List.set_cons_succ]
                      have V10 := hid hv10
                      replace QC := hid (QC.out.of_grown hg10 (fun jj hj2 => .inr (own_lt V7.out jj hj2).1)); replace HSZ := hid QC.out.size
                      clear hv10 hg10 hb10
                      refine rgn.Walk.es ?_
                      refine rgn.stepE rfl rfl (fun K hK => ?_)
                      go_simp
                      refine hK _ _ ((Below.refl _) _) ?_
                      clear hK K
                      try simp only [Act.put, List.setIfInBounds_toArray, List.set_cons_zero, List.set_cons_succ]
                      refine rgn.Walk.zs (NoPanic.normal ?_)
                      have hs2 := HS2.out
                      have HOC := hid (HO4.out.only QC.out (by simp))
                      have k0 := HOC.out.cell 0
                      have RC2 := hid (HR2.out.only_nil QC.out)
                      go_wp2_with (at_builtin; refine wpList_appS _ rfl (.tmp 71) (.tmp 77) _ rfl elemS W.heap.size v10 (j + 1) (rws Rt.enc (D.take j) ++ Rt.enc ⟨rn, b, rv, rm⟩) rfl V10.out A2 (n - j) c2 (rws Rt.enc (D.drop j)) rfl RC2.out HZ2.out HF2.out (by omega) (by unfold maxLen; omega) HSZ.out ?_)
                      intro v12 w12 hv12 hg12 hb12
                      have Q12 := hid (show Only [] W w12 from QC.out.of_grown hg12 (fun jj hj2 => .inr (own_lt V10.out jj hj2).1))
                      obtain ⟨A12, c12, e12, -, -, -, -, -, -⟩ := RdS.of_own hv12 (one3 D ⟨rn, b, rv, rm⟩ j _ (by simp))
                      have HE12 := hid e12
                      rw [e12]
                      have HV12 : Hid (w12.ownsRow w.heap.size 34 4 v12 (j + 1 + (n - j)) (rws Rt.enc (D.take j ++ [⟨rn, b, rv, rm⟩] ++ D.drop j))) := hid (own_mono (by rw [rws_app, rws_app]; simpa [rws] using hv12) HLw.out)
                      clear hv12 hg12 hb12 e12 k0 hs2
                      have HO12 := hid (HO4.out.only Q12.out (by simp))
                      have k0 := HO12.out.cell 0; have f0 := HO12.out.frozen 0
                      go_wp2_with fail
                      go_ret
                      have hia := ins_at HS.out (by rw [HN.out]; exact hj) HA.out HNA.out HNO.out
                      have hst := dstep_put H.out (HQ9.out.trans Q12.out) HB.out HV12.out (by rw [hia.1.length_eq, List.length_cons, HN.out]; omega)
                      rw [HE12.out] at hst
                      exact ⟨_, _, _, rfl, .inr (.inr (.inr ⟨rfl, HVd.out, HNO.out, by rw [HN.out]; omega, hia.1, hia.2⟩)), hst⟩
                    · refine rgn.stepE rfl rfl (fun K hK => ?_)
                      go_simp
                      refine hK _ _ (Below.alloc (Below.refl _ _) HSZ.out _) ?_
                      clear hK K
                      try simp only [Act.put, List.setIfInBounds_toArray, List.set_cons_zero, List.set_cons_succ]
                      obtain ⟨wO, hwO⟩ : ∃ x, wE.alloc (.cells #[.int .u32 rn, .int .i64 (b : Int), .int .u32 rv, .int .i64 rm] 34) = x := ⟨_, rfl⟩
                      rw [hwO]
                      have oO : Only [] wE wO := by rw [← hwO]; exact (Only.refl [] wE).alloc _
                      have R9 : Hid (RdS wO (some ⟨wE.heap.size, 0, none⟩) 1 4 (Rt.enc ⟨rn, b, rv, rm⟩)) := hid (by rw [← hwO]; exact rdS_rt wE ⟨rn, b, rv, rm⟩)
                      have HRB : Hid (wO.heap.size = wE.heap.size + 1) := hid (by rw [← hwO]; simp)
                      replace HE := hid (own_only_nil HE.out oO)
                      replace QC := hid (QC.out.trans oO); replace HSZ := hid QC.out.size
                      clear oO hwO
                      refine rgn.Walk.es ?_
                      refine rgn.stepE rfl rfl (fun K hK => ?_)
                      refine opAppS _ rfl (.tmp 59) (.tmp 65) _ rfl elemS _ (.slice (some ⟨WR.heap.size, 0, none⟩) 0 0) 0 [] rfl HE.out A j c (rws Rt.enc (D.take j)) rfl (HR1.out.only_nil QC.out) HZ1.out HF1.out (by omega) (by unfold maxLen; omega) HSZ.out (fun v7 w7 hv7 hg7 hb7 => ?_)
                      refine hK _ _ (Below.grown (Below.refl _ _) hg7 HSZ.out (fun jj hj2 => (own_lt HE.out jj hj2).1)) ?_
                      clear hK K
                      try simp only [Act.put, List.setIfInBounds_toArray, List.set_cons_zero, List.set_cons_succ]
                      have V7 := hid (show w7.ownsRow _ 34 4 v7 j (rws Rt.enc (D.take j)) from by simpa using hv7)
                      replace R9 := hid (R9.out.grown hg7 (fun bq oq e _ h => by
                        injection e with e; injection e with e
                        have h2 : WR.heap.size = bq := by simpa [Value.ownBlock] using h
                        have h3 := HEB.out; have h4 := HRB.out
                        omega))
                      replace QC := hid (QC.out.of_grown hg7 (fun jj hj2 => .inr (own_lt HE.out jj hj2).1)); replace HSZ := hid QC.out.size
                      clear hv7 hg7 hb7
                      refine rgn.Walk.es ?_
                      refine rgn.stepE rfl rfl (fun K hK => ?_)
                      refine opAppS _ rfl (.tmp 66) (.tmp 68) _ rfl elemS _ v7 j (rws Rt.enc (D.take j)) rfl V7.out (some ⟨wE.heap.size, 0, none⟩) 1 1 (Rt.enc ⟨rn, b, rv, rm⟩) rfl R9.out (by intro e; cases e) (.inr ⟨_, _, rfl⟩) (by omega) (by unfold maxLen; omega) HSZ.out (fun v10 w10 hv10 hg10 hb10 => ?_)
                      refine hK _ _ (Below.grown (Below.refl _ _) hg10 HSZ.out (fun jj hj2 => (own_lt V7.out jj hj2).1)) ?_
                      clear hK K
                      try simp only [Act.put, List.setIfInBounds_toArray, List.set_cons_zero, List.set_cons_succ]
                      have V10 := hid hv10
                      replace QC := hid (QC.out.of_grown hg10 (fun jj hj2 => .inr (own_lt V7.out jj hj2).1)); replace HSZ := hid QC.out.size
                      clear hv10 hg10 hb10
                      refine rgn.Walk.es ?_
                      refine rgn.stepE rfl rfl (fun K hK => ?_)
                      go_simp
                      refine hK _ _ ((Below.refl _) _) ?_
                      clear hK K
                      try simp only [Act.put, List.setIfInBounds_toArray, List.set_cons_zero, List.set_cons_succ]
                      refine rgn.Walk.zs (NoPanic.normal ?_)
                      have hs2 := HS2.out
                      have HOC := hid (HO4.out.only QC.out (by simp))
                      have k0 := HOC.out.cell 0
                      have RC2 := hid (HR2.out.only_nil QC.out)
                      go_wp2_with (at_builtin; refine wpList_appS _ rfl (.tmp 71) (.tmp 77) _ rfl elemS W.heap.size v10 (j + 1) (rws Rt.enc (D.take j) ++ Rt.enc ⟨rn, b, rv, rm⟩) rfl V10.out A2 (n - j) c2 (rws Rt.enc (D.drop j)) rfl RC2.out HZ2.out HF2.out (by omega) (by unfold maxLen; omega) HSZ.out ?_)
                      intro v12 w12 hv12 hg12 hb12
                      have Q12 := hid (show Only [] W w12 from QC.out.of_grown hg12 (fun jj hj2 => .inr (own_lt V10.out jj hj2).1))
                      obtain ⟨A12, c12, e12, -, -, -, -, -, -⟩ := RdS.of_own hv12 (one3 D ⟨rn, b, rv, rm⟩ j _ (by simp))
                      have HE12 := hid e12
                      rw [e12]
                      have HV12 : Hid (w12.ownsRow w.heap.size 34 4 v12 (j + 1 + (n - j)) (rws Rt.enc (D.take j ++ [⟨rn, b, rv, rm⟩] ++ D.drop j))) := hid (own_mono (by rw [rws_app, rws_app]; simpa [rws] using hv12) HLw.out)
                      clear hv12 hg12 hb12 e12 k0 hs2
                      have HO12 := hid (HO4.out.only Q12.out (by simp))
                      have k0 := HO12.out.cell 0; have f0 := HO12.out.frozen 0
                      go_wp2_with fail
                      go_ret
                      have hia := ins_at HS.out (by rw [HN.out]; exact hj) HA.out HNA.out HNO.out
                      have hst := dstep_put H.out (HQ9.out.trans Q12.out) HB.out HV12.out (by rw [hia.1.length_eq, List.length_cons, HN.out]; omega)
                      rw [HE12.out] at hst
                      exact ⟨_, _, _, rfl, .inr (.inr (.inr ⟨rfl, HVd.out, HNO.out, by rw [HN.out]; omega, hia.1, hia.2⟩)), hst⟩
                  · refine rgn.stepE rfl rfl (fun K hK => ?_)
                    go_simp
                    refine hK _ _ (Below.alloc (Below.refl _ _) HSZ.out _) ?_
                    clear hK K
                    try simp only [Act.put, List.setIfInBounds_toArray, List.set_cons_zero, List.set_cons_succ]
                    obtain ⟨wO, hwO⟩ : ∃ x, WR.alloc (.cells #[.int .u32 rn, .int .i64 (b : Int), .int .u32 rv, .int .i64 rm] 34) = x := ⟨_, rfl⟩
                    rw [hwO]
                    have oO : Only [] WR wO := by rw [← hwO]; exact (Only.refl [] WR).alloc _
                    have R9 : Hid (RdS wO (some ⟨WR.heap.size, 0, none⟩) 1 4 (Rt.enc ⟨rn, b, rv, rm⟩)) := hid (by rw [← hwO]; exact rdS_rt WR ⟨rn, b, rv, rm⟩)
                    have HRB : Hid (wO.heap.size = WR.heap.size + 1) := hid (by rw [← hwO]; simp)
                    replace QC := hid (QC.out.trans oO); replace HSZ := hid QC.out.size
                    clear oO hwO
                    refine rgn.Walk.es ?_
                    refine rgn.stepE rfl rfl (fun K hK => ?_)
                    go_simp
                    refine hK _ _ (Below.alloc (Below.refl _ _) HSZ.out _) ?_
                    clear hK K
                    try simp only [Act.put, List.setIfInBounds_toArray, List.set_cons_zero, List.set_cons_succ]
                    obtain ⟨wE, hwE⟩ : ∃ x, wO.alloc (.cells #[] 34) = x := ⟨_, rfl⟩
                    rw [hwE]
                    have oE : Only [] wO wE := by rw [← hwE]; exact (Only.refl [] wO).alloc _
                    have HE : Hid (wE.ownsRow W.heap.size 34 4 (.slice (some ⟨wO.heap.size, 0, none⟩) 0 0) 0 []) := hid ⟨by simp, .inr ⟨wO.heap.size, 0, #[], rfl, HSZ.out, by rw [← hwE]; exact Ob.new _ _ _, Nat.le_refl _, by unfold maxLen; omega, by simp, by simp⟩⟩
                    have HEB : Hid (wE.heap.size = wO.heap.size + 1) := hid (by rw [← hwE]; simp)
                    have HEL := HSZ
                    replace R9 := hid (R9.out.only_nil oE)
                    replace QC := hid (QC.out.trans oE); replace HSZ := hid QC.out.size
                    clear oE hwE
                    refine rgn.Walk.es ?_
                    refine rgn.stepE rfl rfl (fun K hK => ?_)
                    refine opAppS _ rfl (.tmp 59) (.tmp 65) _ rfl elemS _ (.slice (some ⟨wO.heap.size, 0, none⟩) 0 0) 0 [] rfl HE.out A j c (rws Rt.enc (D.take j)) rfl (HR1.out.only_nil QC.out) HZ1.out HF1.out (by omega) (by unfold maxLen; omega) HSZ.out (fun v7 w7 hv7 hg7 hb7 => ?_)
                    refine hK _ _ (Below.grown (Below.refl _ _) hg7 HSZ.out (fun jj hj2 => (own_lt HE.out jj hj2).1)) ?_
                    clear hK K
                    try simp only [Act.put, List.setIfInBounds_toArray, List.set_cons_zero, List.set_cons_succ]
                    have V7 := hid (show w7.ownsRow _ 34 4 v7 j (rws Rt.enc (D.take j)) from by simpa using hv7)
                    replace R9 := hid (R9.out.grown hg7 (fun bq oq e _ h => by
                      injection e with e; injection e with e
                      have h2 : wO.heap.size = bq := by simpa [Value.ownBlock] using h
                      have h3 := HEB.out; have h4 := HRB.out
                      omega))
                    replace QC := hid (QC.out.of_grown hg7 (fun jj hj2 => .inr (own_lt HE.out jj hj2).1)); replace HSZ := hid QC.out.size
                    clear hv7 hg7 hb7
                    refine rgn.Walk.es ?_
                    refine rgn.stepE rfl rfl (fun K hK => ?_)
                    refine opAppS _ rfl (.tmp 66) (.tmp 68) _ rfl elemS _ v7 j (rws Rt.enc (D.take j)) rfl V7.out (some ⟨WR.heap.size, 0, none⟩) 1 1 (Rt.enc ⟨rn, b, rv, rm⟩) rfl R9.out (by intro e; cases e) (.inr ⟨_, _, rfl⟩) (by omega) (by unfold maxLen; omega) HSZ.out (fun v10 w10 hv10 hg10 hb10 => ?_)
                    refine hK _ _ (Below.grown (Below.refl _ _) hg10 HSZ.out (fun jj hj2 => (own_lt V7.out jj hj2).1)) ?_
                    clear hK K
                    try simp only [Act.put, List.setIfInBounds_toArray, List.set_cons_zero, List.set_cons_succ]
                    have V10 := hid hv10
                    replace QC := hid (QC.out.of_grown hg10 (fun jj hj2 => .inr (own_lt V7.out jj hj2).1)); replace HSZ := hid QC.out.size
                    clear hv10 hg10 hb10
                    refine rgn.Walk.es ?_
                    refine rgn.stepE rfl rfl (fun K hK => ?_)
                    go_simp
                    refine hK _ _ ((Below.refl _) _) ?_
                    clear hK K
                    try simp only [Act.put, List.setIfInBounds_toArray, List.set_cons_zero, List.set_cons_succ]
                    refine rgn.Walk.zs (NoPanic.normal ?_)
                    have hs2 := HS2.out
                    have HOC := hid (HO4.out.only QC.out (by simp))
                    have k0 := HOC.out.cell 0
                    have RC2 := hid (HR2.out.only_nil QC.out)
                    go_wp2_with (at_builtin; refine wpList_appS _ rfl (.tmp 71) (.tmp 77) _ rfl elemS W.heap.size v10 (j + 1) (rws Rt.enc (D.take j) ++ Rt.enc ⟨rn, b, rv, rm⟩) rfl V10.out A2 (n - j) c2 (rws Rt.enc (D.drop j)) rfl RC2.out HZ2.out HF2.out (by omega) (by unfold maxLen; omega) HSZ.out ?_)
                    intro v12 w12 hv12 hg12 hb12
                    have Q12 := hid (show Only [] W w12 from QC.out.of_grown hg12 (fun jj hj2 => .inr (own_lt V10.out jj hj2).1))
                    obtain ⟨A12, c12, e12, -, -, -, -, -, -⟩ := RdS.of_own hv12 (one3 D ⟨rn, b, rv, rm⟩ j _ (by simp))
                    have HE12 := hid e12
                    rw [e12]
                    have HV12 : Hid (w12.ownsRow w.heap.size 34 4 v12 (j + 1 + (n - j)) (rws Rt.enc (D.take j ++ [⟨rn, b, rv, rm⟩] ++ D.drop j))) := hid (own_mono (by rw [rws_app, rws_app]; simpa [rws] using hv12) HLw.out)
                    clear hv12 hg12 hb12 e12 k0 hs2
                    have HO12 := hid (HO4.out.only Q12.out (by simp))
                    have k0 := HO12.out.cell 0; have f0 := HO12.out.frozen 0
                    go_wp2_with fail
                    go_ret
                    have hia := ins_at HS.out (by rw [HN.out]; exact hj) HA.out HNA.out HNO.out
                    have hst := dstep_put H.out (HQ9.out.trans Q12.out) HB.out HV12.out (by rw [hia.1.length_eq, List.length_cons, HN.out]; omega)
                    rw [HE12.out] at hst
                    exact ⟨_, _, _, rfl, .inr (.inr (.inr ⟨rfl, HVd.out, HNO.out, by rw [HN.out]; omega, hia.1, hia.2⟩)), hst⟩
          · have HKEY := hid (⟨k, hk, hkey⟩ : ∃ (k : Nat) (hk : k < D.length), Key D[k] ⟨rn, b, rv, rm⟩)
            have hk0 : (0 : Int) ≤ (k : Int) := by omega
            clear hkey
            go_wp2_with fail
            go_ret
            obtain ⟨k2, hk2, hkey2⟩ := HKEY.out
            exact ⟨_, D, v, rfl, .inr (.inl ⟨rfl, HVd.out, ⟨_, List.getElem_mem hk2, hkey2⟩, rfl⟩), H.out.same Q2.out⟩
        · have zz : (bits BinOp.andNot IntKind.u32 rn (mz b) != 0) = true := by simpa using hm
          refine wp_region_noPanic ?_
          refine rgn.regionT (R := Only []) (by kernel_rfl) (Only.refl []) (fun _ _ _ => Only.trans) (fun _ _ _ _ _ h => h) (.y 0 (.y 1 (.y 2 (.y 3 (.y 4 (.y 5 (.y 6 (.y 7 (.y 8 (.y 9 (.y 10 (.y 11 (.y 12 (.y 13 (.y 14 (.y 15 (.y 16 (.y 17 (.e 18 (.y 19 (.y 20 (.y 21 .z)))))))))))))))))))))) (by kernel_rfl) (fun W hWd => ?_)
          have HWd := hid hWd; clear hWd
          have q8 : Only [] W0 W := Only.eq_drew (Only.refl [] _) HWd.out
          have OBW := hid (OB.out.only q8 (by simp)); have Q := hid (Q0.out.trans q8)
          clear q8 HWd
          refine rgn.Walk.ys (v := ?_) rfl rfl rfl ?_ ?_
          rotate_left 1
          · intro W' hW'
            go_simp
            try with_reducible rfl
          try simp only [Act.put, List.setIfInBounds_toArray, List.set_cons_zero, List.set_cons_succ]
          refine rgn.Walk.ys (v := ?_) rfl rfl rfl ?_ ?_
          rotate_left 1
          · intro W' hW'
            have q0 := hW'.keep (OBW.out.cell 1)
            go_simp
            try with_reducible rfl
          try simp only [Act.put, List.setIfInBounds_toArray, List.set_cons_zero, List.set_cons_succ]
          refine rgn.Walk.ys (v := ?_) rfl rfl rfl ?_ ?_
          rotate_left 1
          · intro W' hW'
            go_simp
            try with_reducible rfl
          try simp only [Act.put, List.setIfInBounds_toArray, List.set_cons_zero, List.set_cons_succ]
          refine rgn.Walk.ys (v := ?_) rfl rfl rfl ?_ ?_
          rotate_left 1
          · intro W' hW'
            go_simp
            try with_reducible rfl
          try simp only [Act.put, List.setIfInBounds_toArray, List.set_cons_zero, List.set_cons_succ]
          refine rgn.Walk.ys (v := ?_) rfl rfl rfl ?_ ?_
          rotate_left 1
          · intro W' hW'
            go_simp
            try with_reducible rfl
          try simp only [Act.put, List.setIfInBounds_toArray, List.set_cons_zero, List.set_cons_succ]
          refine rgn.Walk.ys (v := ?_) rfl rfl rfl ?_ ?_
          rotate_left 1
          · intro W' hW'
            have q0 := hW'.keep (OBW.out.cell 1)
            go_simp
            try with_reducible rfl
          try simp only [Act.put, List.setIfInBounds_toArray, List.set_cons_zero, List.set_cons_succ]
          refine rgn.Walk.ys (v := ?_) rfl rfl rfl ?_ ?_
          rotate_left 1
          · intro W' hW'
            go_simp
            try with_reducible rfl
          try simp only [Act.put, List.setIfInBounds_toArray, List.set_cons_zero, List.set_cons_succ]
          refine rgn.Walk.ys (v := ?_) rfl rfl rfl ?_ ?_
          rotate_left 1
          · intro W' hW'
            go_simp
            try with_reducible rfl
          try simp only [Act.put, List.setIfInBounds_toArray, List.set_cons_zero, List.set_cons_succ]
          refine rgn.Walk.ys (v := ?_) rfl rfl rfl ?_ ?_
          rotate_left 1
          · intro W' hW'
            go_simp
            try with_reducible rfl
          try simp only [Act.put, List.setIfInBounds_toArray, List.set_cons_zero, List.set_cons_succ]
          refine rgn.Walk.ys (v := ?_) rfl rfl rfl ?_ ?_
          rotate_left 1
          · intro W' hW'
            go_simp
            try with_reducible rfl
          try simp only [Act.put, List.setIfInBounds_toArray, List.set_cons_zero, List.set_cons_succ]
          refine rgn.Walk.ys (v := ?_) rfl rfl rfl ?_ ?_
          rotate_left 1
          · intro W' hW'
            have q0 := hW'.keep (OBW.out.cell 3)
            go_simp
            try with_reducible rfl
          try simp only [Act.put, List.setIfInBounds_toArray, List.set_cons_zero, List.set_cons_succ]
          refine rgn.Walk.ys (v := ?_) rfl rfl rfl ?_ ?_
          rotate_left 1
          · intro W' hW'
            go_simp
            try with_reducible rfl
          try simp only [Act.put, List.setIfInBounds_toArray, List.set_cons_zero, List.set_cons_succ]
          refine rgn.Walk.ys (v := ?_) rfl rfl rfl ?_ ?_
          rotate_left 1
          · intro W' hW'
            go_simp
            try with_reducible rfl
          try simp only [Act.put, List.setIfInBounds_toArray, List.set_cons_zero, List.set_cons_succ]
          refine rgn.Walk.ys (v := ?_) rfl rfl rfl ?_ ?_
          rotate_left 1
          · intro W' hW'
            go_simp
            try with_reducible rfl
          try simp only [Act.put, List.setIfInBounds_toArray, List.set_cons_zero, List.set_cons_succ]
          refine rgn.Walk.ys (v := ?_) rfl rfl rfl ?_ ?_
          rotate_left 1
          · intro W' hW'
            go_simp
            try with_reducible rfl
          try simp only [Act.put, List.setIfInBounds_toArray, List.set_cons_zero, List.set_cons_succ]
          refine rgn.Walk.ys (v := ?_) rfl rfl rfl ?_ ?_
          rotate_left 1
          · intro W' hW'
            have q0 := hW'.keep (OBW.out.cell 0)
            go_simp
            try with_reducible rfl
          try simp only [Act.put, List.setIfInBounds_toArray, List.set_cons_zero, List.set_cons_succ]
          refine rgn.Walk.ys (v := ?_) rfl rfl rfl ?_ ?_
          rotate_left 1
          · intro W' hW'
            go_simp
            try with_reducible rfl
          try simp only [Act.put, List.setIfInBounds_toArray, List.set_cons_zero, List.set_cons_succ]
          refine rgn.Walk.ys (v := ?_) rfl rfl rfl ?_ ?_
          rotate_left 1
          · intro W' hW'
            have q0 := hW'.keep (OBW.out.cell 1)
            go_simp
            try with_reducible rfl
          try simp only [Act.put, List.setIfInBounds_toArray, List.set_cons_zero, List.set_cons_succ]
          refine rgn.Walk.es ?_
          refine rgn.stepE rfl rfl (fun K hK => ?_)
          go_simp
          refine (mask1 _ b hb32).mono ?_
          rintro x w5 ⟨rfl, e5⟩
          subst e5
          refine hK _ _ (Only.refl _ _) ?_
          clear hK K
          try simp only [Act.put, List.setIfInBounds_toArray, List.set_cons_zero, List.set_cons_succ]
          refine rgn.Walk.ys (v := ?_) rfl rfl rfl ?_ ?_
          rotate_left 1
          · intro W' hW'
            go_simp
            try with_reducible rfl
          try simp only [Act.put, List.setIfInBounds_toArray, List.set_cons_zero, List.set_cons_succ]
          refine rgn.Walk.ys (v := ?_) rfl rfl rfl ?_ ?_
          rotate_left 1
          · intro W' hW'
            have zy := zz
            go_simp
            try with_reducible rfl
          try simp only [Act.put, List.setIfInBounds_toArray, List.set_cons_zero, List.set_cons_succ]
          refine rgn.Walk.ys (v := ?_) rfl rfl rfl ?_ ?_
          rotate_left 1
          · intro W' hW'
            go_simp
            try with_reducible rfl
          try simp only [Act.put, List.setIfInBounds_toArray, List.set_cons_zero, List.set_cons_succ]
          refine rgn.Walk.zs (NoPanic.normal ?_)
          have HNV : Hid (¬ Vld ⟨rn, b, rv, rm⟩) := hid (fun hv => by have := hv.2.2; simp only at this; rw [show ((b : Int)).toNat = b from by omega] at this; exact hm (HMZ.out.2 this))
          clear hm
          go_wp2_with fail
          go_ret
          exact ⟨_, D, v, rfl, .inl ⟨rfl, HNV.out, rfl⟩, H.out.same Q.out⟩
      · have HNV : Hid (¬ Vld ⟨rn, rb, rv, rm⟩) := hid (fun hv => by have := hv.2.1; simp only at this; omega)
        have c1 : (rb < 0) = False := by simp; omega
        have c2 : ((32 : Int) < rb) = False := by simp; omega
        have c3 : (rm < 0) = True := by simp; omega
        go_enter Try.func9, Try.ntmps9
        go_wp2_with fail
        refine wp_region_noPanic ?_
        refine rgn.regionT (R := Only []) (by kernel_rfl) (Only.refl []) (fun _ _ _ => Only.trans) (fun _ _ _ _ _ h => h) (.y 0 (.y 1 (.y 2 (.y 3 (.y 4 (.y 5 (.y 6 (.y 7 (.y 8 (.y 9 (.y 10 (.y 11 (.y 12 (.y 13 (.y 14 (.y 15 (.y 16 (.y 17 (.e 18 (.y 19 (.y 20 (.y 21 .z)))))))))))))))))))))) (by kernel_rfl) (fun W hWd => ?_)
        have HWd := hid hWd; clear hWd
        have q8 : Only [] W0 W := Only.eq_drew (Only.refl [] _) HWd.out
        have OBW := hid (OB.out.only q8 (by simp)); have Q := hid (Q0.out.trans q8)
        clear q8 HWd
        refine rgn.Walk.ys (v := ?_) rfl rfl rfl ?_ ?_
        rotate_left 1
        · intro W' hW'
          go_simp
          try with_reducible rfl
        try simp only [Act.put, List.setIfInBounds_toArray, List.set_cons_zero, List.set_cons_succ]
        refine rgn.Walk.ys (v := ?_) rfl rfl rfl ?_ ?_
        rotate_left 1
        · intro W' hW'
          have q0 := hW'.keep (OBW.out.cell 1)
          go_simp
          try with_reducible rfl
        try simp only [Act.put, List.setIfInBounds_toArray, List.set_cons_zero, List.set_cons_succ]
        refine rgn.Walk.ys (v := ?_) rfl rfl rfl ?_ ?_
        rotate_left 1
        · intro W' hW'
          go_simp
          try with_reducible rfl
        try simp only [Act.put, List.setIfInBounds_toArray, List.set_cons_zero, List.set_cons_succ]
        refine rgn.Walk.ys (v := ?_) rfl rfl rfl ?_ ?_
        rotate_left 1
        · intro W' hW'
          go_simp
          try with_reducible rfl
        try simp only [Act.put, List.setIfInBounds_toArray, List.set_cons_zero, List.set_cons_succ]
        refine rgn.Walk.ys (v := ?_) rfl rfl rfl ?_ ?_
        rotate_left 1
        · intro W' hW'
          go_simp
          try with_reducible rfl
        try simp only [Act.put, List.setIfInBounds_toArray, List.set_cons_zero, List.set_cons_succ]
        refine rgn.Walk.ys (v := ?_) rfl rfl rfl ?_ ?_
        rotate_left 1
        · intro W' hW'
          have q0 := hW'.keep (OBW.out.cell 1)
          go_simp
          try with_reducible rfl
        try simp only [Act.put, List.setIfInBounds_toArray, List.set_cons_zero, List.set_cons_succ]
        refine rgn.Walk.ys (v := ?_) rfl rfl rfl ?_ ?_
        rotate_left 1
        · intro W' hW'
          go_simp
          try with_reducible rfl
        try simp only [Act.put, List.setIfInBounds_toArray, List.set_cons_zero, List.set_cons_succ]
        refine rgn.Walk.ys (v := ?_) rfl rfl rfl ?_ ?_
        rotate_left 1
        · intro W' hW'
          go_simp
          try with_reducible rfl
        try simp only [Act.put, List.setIfInBounds_toArray, List.set_cons_zero, List.set_cons_succ]
        refine rgn.Walk.ys (v := ?_) rfl rfl rfl ?_ ?_
        rotate_left 1
        · intro W' hW'
          go_simp
          try with_reducible rfl
        try simp only [Act.put, List.setIfInBounds_toArray, List.set_cons_zero, List.set_cons_succ]
        refine rgn.Walk.ys (v := ?_) rfl rfl rfl ?_ ?_
        rotate_left 1
        · intro W' hW'
          go_simp
          try with_reducible rfl
        try simp only [Act.put, List.setIfInBounds_toArray, List.set_cons_zero, List.set_cons_succ]
        refine rgn.Walk.ys (v := ?_) rfl rfl rfl ?_ ?_
        rotate_left 1
        · intro W' hW'
          have q0 := hW'.keep (OBW.out.cell 3)
          go_simp
          try with_reducible rfl
        try simp only [Act.put, List.setIfInBounds_toArray, List.set_cons_zero, List.set_cons_succ]
        refine rgn.Walk.ys (v := ?_) rfl rfl rfl ?_ ?_
        rotate_left 1
        · intro W' hW'
          go_simp
          try with_reducible rfl
        try simp only [Act.put, List.setIfInBounds_toArray, List.set_cons_zero, List.set_cons_succ]
        refine rgn.Walk.ys (v := ?_) rfl rfl rfl ?_ ?_
        rotate_left 1
        · intro W' hW'
          go_simp
          try with_reducible rfl
        try simp only [Act.put, List.setIfInBounds_toArray, List.set_cons_zero, List.set_cons_succ]
        refine rgn.Walk.ys (v := ?_) rfl rfl rfl ?_ ?_
        rotate_left 1
        · intro W' hW'
          go_simp
          try with_reducible rfl
        try simp only [Act.put, List.setIfInBounds_toArray, List.set_cons_zero, List.set_cons_succ]
        refine rgn.Walk.yn rfl rfl rfl ?_
        try simp only [Act.put, List.setIfInBounds_toArray, List.set_cons_zero, List.set_cons_succ]
        refine rgn.Walk.yn rfl rfl rfl ?_
        try simp only [Act.put, List.setIfInBounds_toArray, List.set_cons_zero, List.set_cons_succ]
        refine rgn.Walk.yn rfl rfl rfl ?_
        try simp only [Act.put, List.setIfInBounds_toArray, List.set_cons_zero, List.set_cons_succ]
        refine rgn.Walk.yn rfl rfl rfl ?_
        try simp only [Act.put, List.setIfInBounds_toArray, List.set_cons_zero, List.set_cons_succ]
        refine rgn.Walk.es (rgn.stepN (Only.refl []) rfl rfl rfl ?_)
        try simp only [Act.put, List.setIfInBounds_toArray, List.set_cons_zero, List.set_cons_succ]
        refine rgn.Walk.yn rfl rfl rfl ?_
        try simp only [Act.put, List.setIfInBounds_toArray, List.set_cons_zero, List.set_cons_succ]
        refine rgn.Walk.yn rfl rfl rfl ?_
        try simp only [Act.put, List.setIfInBounds_toArray, List.set_cons_zero, List.set_cons_succ]
        refine rgn.Walk.ys (v := ?_) rfl rfl rfl ?_ ?_
        rotate_left 1
        · intro W' hW'
          go_simp
          try with_reducible rfl
        try simp only [Act.put, List.setIfInBounds_toArray, List.set_cons_zero, List.set_cons_succ]
        refine rgn.Walk.zs (NoPanic.normal ?_)
        go_wp2_with fail
        go_ret
        exact ⟨_, D, v, rfl, .inl ⟨rfl, HNV.out, rfl⟩, H.out.same Q.out⟩
    · have HNV : Hid (¬ Vld ⟨rn, rb, rv, rm⟩) := hid (fun hv => by have := hv.1.2; simp only at this; omega)
      have c1 : (rb < 0) = False := by simp; omega
      have c2 : ((32 : Int) < rb) = True := by simp; omega
      go_enter Try.func9, Try.ntmps9
      go_wp2_with fail
      refine wp_region_noPanic ?_
      refine rgn.regionT (R := Only []) (by kernel_rfl) (Only.refl []) (fun _ _ _ => Only.trans) (fun _ _ _ _ _ h => h) (.y 0 (.y 1 (.y 2 (.y 3 (.y 4 (.y 5 (.y 6 (.y 7 (.y 8 (.y 9 (.y 10 (.y 11 (.y 12 (.y 13 (.y 14 (.y 15 (.y 16 (.y 17 (.e 18 (.y 19 (.y 20 (.y 21 .z)))))))))))))))))))))) (by kernel_rfl) (fun W hWd => ?_)
      have HWd := hid hWd; clear hWd
      have q8 : Only [] W0 W := Only.eq_drew (Only.refl [] _) HWd.out
      have OBW := hid (OB.out.only q8 (by simp)); have Q := hid (Q0.out.trans q8)
      clear q8 HWd
      refine rgn.Walk.ys (v := ?_) rfl rfl rfl ?_ ?_
      rotate_left 1
      · intro W' hW'
        go_simp
        try with_reducible rfl
      try simp only [Act.put, List.setIfInBounds_toArray, List.set_cons_zero, List.set_cons_succ]
      refine rgn.Walk.ys (v := ?_) rfl rfl rfl ?_ ?_
      rotate_left 1
      · intro W' hW'
        have q0 := hW'.keep (OBW.out.cell 1)
        go_simp
        try with_reducible rfl
      try simp only [Act.put, List.setIfInBounds_toArray, List.set_cons_zero, List.set_cons_succ]
      refine rgn.Walk.ys (v := ?_) rfl rfl rfl ?_ ?_
      rotate_left 1
      · intro W' hW'
        go_simp
        try with_reducible rfl
      try simp only [Act.put, List.setIfInBounds_toArray, List.set_cons_zero, List.set_cons_succ]
      refine rgn.Walk.ys (v := ?_) rfl rfl rfl ?_ ?_
      rotate_left 1
      · intro W' hW'
        go_simp
        try with_reducible rfl
      try simp only [Act.put, List.setIfInBounds_toArray, List.set_cons_zero, List.set_cons_succ]
      refine rgn.Walk.ys (v := ?_) rfl rfl rfl ?_ ?_
      rotate_left 1
      · intro W' hW'
        go_simp
        try with_reducible rfl
      try simp only [Act.put, List.setIfInBounds_toArray, List.set_cons_zero, List.set_cons_succ]
      refine rgn.Walk.ys (v := ?_) rfl rfl rfl ?_ ?_
      rotate_left 1
      · intro W' hW'
        have q0 := hW'.keep (OBW.out.cell 1)
        go_simp
        try with_reducible rfl
      try simp only [Act.put, List.setIfInBounds_toArray, List.set_cons_zero, List.set_cons_succ]
      refine rgn.Walk.ys (v := ?_) rfl rfl rfl ?_ ?_
      rotate_left 1
      · intro W' hW'
        go_simp
        try with_reducible rfl
      try simp only [Act.put, List.setIfInBounds_toArray, List.set_cons_zero, List.set_cons_succ]
      refine rgn.Walk.ys (v := ?_) rfl rfl rfl ?_ ?_
      rotate_left 1
      · intro W' hW'
        go_simp
        try with_reducible rfl
      try simp only [Act.put, List.setIfInBounds_toArray, List.set_cons_zero, List.set_cons_succ]
      refine rgn.Walk.ys (v := ?_) rfl rfl rfl ?_ ?_
      rotate_left 1
      · intro W' hW'
        go_simp
        try with_reducible rfl
      try simp only [Act.put, List.setIfInBounds_toArray, List.set_cons_zero, List.set_cons_succ]
      refine rgn.Walk.yn rfl rfl rfl ?_
      try simp only [Act.put, List.setIfInBounds_toArray, List.set_cons_zero, List.set_cons_succ]
      refine rgn.Walk.yn rfl rfl rfl ?_
      try simp only [Act.put, List.setIfInBounds_toArray, List.set_cons_zero, List.set_cons_succ]
      refine rgn.Walk.yn rfl rfl rfl ?_
      try simp only [Act.put, List.setIfInBounds_toArray, List.set_cons_zero, List.set_cons_succ]
      refine rgn.Walk.ys (v := ?_) rfl rfl rfl ?_ ?_
      rotate_left 1
      · intro W' hW'
        go_simp
        try with_reducible rfl
      try simp only [Act.put, List.setIfInBounds_toArray, List.set_cons_zero, List.set_cons_succ]
      refine rgn.Walk.ys (v := ?_) rfl rfl rfl ?_ ?_
      rotate_left 1
      · intro W' hW'
        go_simp
        try with_reducible rfl
      try simp only [Act.put, List.setIfInBounds_toArray, List.set_cons_zero, List.set_cons_succ]
      refine rgn.Walk.yn rfl rfl rfl ?_
      try simp only [Act.put, List.setIfInBounds_toArray, List.set_cons_zero, List.set_cons_succ]
      refine rgn.Walk.yn rfl rfl rfl ?_
      try simp only [Act.put, List.setIfInBounds_toArray, List.set_cons_zero, List.set_cons_succ]
      refine rgn.Walk.yn rfl rfl rfl ?_
      try simp only [Act.put, List.setIfInBounds_toArray, List.set_cons_zero, List.set_cons_succ]
      refine rgn.Walk.yn rfl rfl rfl ?_
      try simp only [Act.put, List.setIfInBounds_toArray, List.set_cons_zero, List.set_cons_succ]
      refine rgn.Walk.es (rgn.stepN (Only.refl []) rfl rfl rfl ?_)
      try simp only [Act.put, List.setIfInBounds_toArray, List.set_cons_zero, List.set_cons_succ]
      refine rgn.Walk.yn rfl rfl rfl ?_
      try simp only [Act.put, List.setIfInBounds_toArray, List.set_cons_zero, List.set_cons_succ]
      refine rgn.Walk.yn rfl rfl rfl ?_
      try simp only [Act.put, List.setIfInBounds_toArray, List.set_cons_zero, List.set_cons_succ]
      refine rgn.Walk.ys (v := ?_) rfl rfl rfl ?_ ?_
      rotate_left 1
      · intro W' hW'
        go_simp
        try with_reducible rfl
      try simp only [Act.put, List.setIfInBounds_toArray, List.set_cons_zero, List.set_cons_succ]
      refine rgn.Walk.zs (NoPanic.normal ?_)
      go_wp2_with fail
      go_ret
      exact ⟨_, D, v, rfl, .inl ⟨rfl, HNV.out, rfl⟩, H.out.same Q.out⟩
  · have HNV : Hid (¬ Vld ⟨rn, rb, rv, rm⟩) := hid (fun hv => by have := hv.1.1; simp only at this; omega)
    have c1 : (rb < 0) = True := by simp; omega
    go_enter Try.func9, Try.ntmps9
    go_wp2_with fail
    refine wp_region_noPanic ?_
    refine rgn.regionT (R := Only []) (by kernel_rfl) (Only.refl []) (fun _ _ _ => Only.trans) (fun _ _ _ _ _ h => h) (.y 0 (.y 1 (.y 2 (.y 3 (.y 4 (.y 5 (.y 6 (.y 7 (.y 8 (.y 9 (.y 10 (.y 11 (.y 12 (.y 13 (.y 14 (.y 15 (.y 16 (.y 17 (.e 18 (.y 19 (.y 20 (.y 21 .z)))))))))))))))))))))) (by kernel_rfl) (fun W hWd => ?_)
    have HWd := hid hWd; clear hWd
    have q8 : Only [] W0 W := Only.eq_drew (Only.refl [] _) HWd.out
    have OBW := hid (OB.out.only q8 (by simp)); have Q := hid (Q0.out.trans q8)
    clear q8 HWd
    refine rgn.Walk.ys (v := ?_) rfl rfl rfl ?_ ?_
    rotate_left 1
    · intro W' hW'
      go_simp
      try with_reducible rfl
    try simp only [Act.put, List.setIfInBounds_toArray, List.set_cons_zero, List.set_cons_succ]
    refine rgn.Walk.ys (v := ?_) rfl rfl rfl ?_ ?_
    rotate_left 1
    · intro W' hW'
      have q0 := hW'.keep (OBW.out.cell 1)
      go_simp
      try with_reducible rfl
    try simp only [Act.put, List.setIfInBounds_toArray, List.set_cons_zero, List.set_cons_succ]
    refine rgn.Walk.ys (v := ?_) rfl rfl rfl ?_ ?_
    rotate_left 1
    · intro W' hW'
      go_simp
      try with_reducible rfl
    try simp only [Act.put, List.setIfInBounds_toArray, List.set_cons_zero, List.set_cons_succ]
    refine rgn.Walk.ys (v := ?_) rfl rfl rfl ?_ ?_
    rotate_left 1
    · intro W' hW'
      go_simp
      try with_reducible rfl
    try simp only [Act.put, List.setIfInBounds_toArray, List.set_cons_zero, List.set_cons_succ]
    refine rgn.Walk.yn rfl rfl rfl ?_
    try simp only [Act.put, List.setIfInBounds_toArray, List.set_cons_zero, List.set_cons_succ]
    refine rgn.Walk.yn rfl rfl rfl ?_
    try simp only [Act.put, List.setIfInBounds_toArray, List.set_cons_zero, List.set_cons_succ]
    refine rgn.Walk.yn rfl rfl rfl ?_
    try simp only [Act.put, List.setIfInBounds_toArray, List.set_cons_zero, List.set_cons_succ]
    refine rgn.Walk.ys (v := ?_) rfl rfl rfl ?_ ?_
    rotate_left 1
    · intro W' hW'
      go_simp
      try with_reducible rfl
    try simp only [Act.put, List.setIfInBounds_toArray, List.set_cons_zero, List.set_cons_succ]
    refine rgn.Walk.ys (v := ?_) rfl rfl rfl ?_ ?_
    rotate_left 1
    · intro W' hW'
      go_simp
      try with_reducible rfl
    try simp only [Act.put, List.setIfInBounds_toArray, List.set_cons_zero, List.set_cons_succ]
    refine rgn.Walk.yn rfl rfl rfl ?_
    try simp only [Act.put, List.setIfInBounds_toArray, List.set_cons_zero, List.set_cons_succ]
    refine rgn.Walk.yn rfl rfl rfl ?_
    try simp only [Act.put, List.setIfInBounds_toArray, List.set_cons_zero, List.set_cons_succ]
    refine rgn.Walk.yn rfl rfl rfl ?_
    try simp only [Act.put, List.setIfInBounds_toArray, List.set_cons_zero, List.set_cons_succ]
    refine rgn.Walk.ys (v := ?_) rfl rfl rfl ?_ ?_
    rotate_left 1
    · intro W' hW'
      go_simp
      try with_reducible rfl
    try simp only [Act.put, List.setIfInBounds_toArray, List.set_cons_zero, List.set_cons_succ]
    refine rgn.Walk.ys (v := ?_) rfl rfl rfl ?_ ?_
    rotate_left 1
    · intro W' hW'
      go_simp
      try with_reducible rfl
    try simp only [Act.put, List.setIfInBounds_toArray, List.set_cons_zero, List.set_cons_succ]
    refine rgn.Walk.yn rfl rfl rfl ?_
    try simp only [Act.put, List.setIfInBounds_toArray, List.set_cons_zero, List.set_cons_succ]
    refine rgn.Walk.yn rfl rfl rfl ?_
    try simp only [Act.put, List.setIfInBounds_toArray, List.set_cons_zero, List.set_cons_succ]
    refine rgn.Walk.yn rfl rfl rfl ?_
    try simp only [Act.put, List.setIfInBounds_toArray, List.set_cons_zero, List.set_cons_succ]
    refine rgn.Walk.yn rfl rfl rfl ?_
    try simp only [Act.put, List.setIfInBounds_toArray, List.set_cons_zero, List.set_cons_succ]
    refine rgn.Walk.es (rgn.stepN (Only.refl []) rfl rfl rfl ?_)
    try simp only [Act.put, List.setIfInBounds_toArray, List.set_cons_zero, List.set_cons_succ]
    refine rgn.Walk.yn rfl rfl rfl ?_
    try simp only [Act.put, List.setIfInBounds_toArray, List.set_cons_zero, List.set_cons_succ]
    refine rgn.Walk.yn rfl rfl rfl ?_
    try simp only [Act.put, List.setIfInBounds_toArray, List.set_cons_zero, List.set_cons_succ]
    refine rgn.Walk.ys (v := ?_) rfl rfl rfl ?_ ?_
    rotate_left 1
    · intro W' hW'
      go_simp
      try with_reducible rfl
    try simp only [Act.put, List.setIfInBounds_toArray, List.set_cons_zero, List.set_cons_succ]
    refine rgn.Walk.zs (NoPanic.normal ?_)
    go_wp2_with fail
    go_ret
    exact ⟨_, D, v, rfl, .inl ⟨rfl, HNV.out, rfl⟩, H.out.same Q.out⟩
end Go.Proofs.Ytoidpakenocllaa.rou
