/-
  Chapter 8 (route): the law RoutePlays, by a walk of its text. Conditions: none but those typed.
-/
import Derived.Test.YtoidpakenocllaaRtJ
import Derived.Test.YtoidpakenocllaaRtN
import Derived.Test.YtoidpakenocllaaRtO
import Derived.Test.YtoidpakenocllaaRtP
import Derived.Test.YtoidpakenocllaaOplRs
namespace Go.Proofs.Ytoidpakenocllaa.rou
set_option linter.unusedVariables false
set_option linter.unusedSimpArgs false
open Go.ChangeShapes Go.WideShapes Go.ChangeAt Go.RowKit Go.IntWalk Go.Lib
/-- The Table of the program and the document's one, apart. -/
structure PI (w : World) (B g1 g2 : Nat) (t : Tr) (v : Value) (D E : List Rt) : Prop where
  T : TV w B g1 t D
  U : DTV w B g2 v E
  ne : g1 ≠ g2
  d1 : g2 ∉ t.bks
  d2 : ∀ j, v.ownBlock = some j → j ≠ g1 ∧ j ∉ t.bks ∧ j ≠ g2
theorem PI.nil {w w' : World} {B g1 g2 : Nat} {t : Tr} {v : Value} {D E : List Rt} (h : PI w B g1 g2 t v D E) (o : Only [] w w') : PI w' B g1 g2 t v D E := ⟨h.T.nil o, h.U.nil o, h.ne, h.d1, h.d2⟩
theorem PI.left {w w' : World} {B g1 g2 : Nat} {t t' : Tr} {v : Value} {D D' E : List Rt} (h : PI w B g1 g2 t v D E) (s : TStep w B g1 t w' t' D') : PI w' B g1 g2 t' v D' E := by
  have hlt := h.U.ob.lt
  have hr := s.row h.U.own (fun j hj => ⟨(h.d2 j hj).1, (h.d2 j hj).2.1⟩)
  refine ⟨s.tv, ⟨h.U.ob.only s.only (fun hm => ?_), hr.1⟩, h.ne, fun hm => ?_, fun j hj => ⟨(hr.2 j hj).1, (hr.2 j hj).2, (h.d2 j hj).2.2⟩⟩
  · rcases List.mem_cons.1 hm with h1 | h1
    · exact h.ne h1.symm
    · exact h.d1 h1
  · rcases s.bk _ hm with h1 | h1
    · exact h.d1 h1
    · omega
theorem PI.right {w w' : World} {B g1 g2 : Nat} {t : Tr} {v v' : Value} {D E E' : List Rt} (h : PI w B g1 g2 t v D E) (s : DStep w B g2 v w' v' E') : PI w' B g1 g2 t v' D E' := by
  have h1 := h.T.ob.lt; have h2 := h.U.ob.lt
  refine ⟨h.T.only s.only (by simpa using h.ne) (fun k hk hm => h.d1 (by rwa [show k = g2 from by simpa using hm] at hk)), s.tv, h.ne, h.d1, fun j hj => ?_⟩
  rcases s.bk with e | e
  · exact h.d2 j (e ▸ hj)
  · have h3 := e j hj
    exact ⟨by omega, fun hm => by have := (Tr.okm_lt h.T.okm j hm).2; omega, by omega⟩
theorem DStep.quiet {w0 w w' : World} {B g : Nat} {v v' : Value} {D' : List Rt} (h : DStep w B g v w' v' D') (o : Only [] w0 w) (hb : w0.heap.size ≤ g) : Only [] w0 w' := o.fresh h.only (fun k hk => .inr (by simp at hk; omega))
theorem Fnd.uniq {D : List Rt} (hs : Srt D) {a e f : Int} {u v : Value} (h : Fnd D a e u) (k : Fnd D a f v) : e = f ∧ u = v := by
  rcases h with ⟨h1, h2, h3⟩ | ⟨r, h1, h2, h3, h4, h5⟩ <;> rcases k with ⟨k1, k2, k3⟩ | ⟨q, k1, k2, k3, k4, k5⟩
  · exact ⟨h1.trans k1.symm, h2.trans k2.symm⟩
  · exact absurd k4 (h3 q k3)
  · exact absurd h4 (k3 r h3)
  · have hk : Key r q := by
      rcases ahd_tri r q with h9 | h9 | h9
      · exact absurd h9 (k5 r h3 h4)
      · exact absurd h9 (h5 q k3 k4)
      · exact h9
    have e := hs.apt.one h3 k3 hk
    subst e
    exact ⟨h1.trans k1.symm, h2.trans k2.symm⟩
def Pl (w wr : World) (B g1 g2 : Nat) : Prop := ∃ t v D, PI wr B g1 g2 t v D D
set_option maxRecDepth 100000 in
set_option maxHeartbeats 16000000 in
theorem plays (w : World) (A : Option Addr) (len c : Nat) (V0 V1 V2 V3 V4 V5 : Nat → Int) (h : OplRs w A len V0 V1 V2 V3 V4 V5) : Calls Try.prog 3 #[.slice A len c] w (fun e w' => e = .returned (.bool true) ∧ Only [] w w') := by
  have HA := hid h; clear h
  obtain ⟨W1, hW1⟩ : ∃ W1, w.alloc (.cells #[.pointer none, .int .i64 0] 26) = W1 := ⟨_, rfl⟩
  obtain ⟨W2, hW2⟩ : ∃ W2, W1.alloc (.cells #[.slice none 0 0] 30) = W2 := ⟨_, rfl⟩
  have q1 : Only [] w W1 := by rw [← hW1]; exact (Only.refl [] w).alloc _
  have q2 : Only [] W1 W2 := by rw [← hW2]; exact (Only.refl [] W1).alloc _
  have t1 : TV W2 w.heap.size w.heap.size .nil [] := TV.nil (by rw [← hW1]; exact TV.new w _) q2
  have t2 : DTV W2 w.heap.size W1.heap.size (.slice none 0 0) [] := ⟨by rw [← hW2]; exact Ob.new _ _ _, World.ownsRow_nil _ _ _ _⟩
  have hne : w.heap.size < W1.heap.size := by rw [← hW1]; simp
  have HI0 : Hid (Pl w W2 w.heap.size w.heap.size W1.heap.size) := hid ⟨_, _, _, t1, t2, by omega, by simp [Tr.bks], by simp [Value.ownBlock]⟩
  have HNE := hid hne
  have Q0 := hid (q1.trans q2)
  clear q1 q2 t1 t2 hne
  go_enter Try.func3, Try.ntmps3
  go_wp2_with fail
  clear hW1 hW2
  obtain ⟨g2, hg2⟩ : ∃ g2, W1.heap.size = g2 := ⟨_, rfl⟩
  rw [hg2] at HI0 HNE ⊢
  clear hg2
  go_loopw [5, 6, 7, 8, 9, 10, 11, 12, 13] (fun i _ _ _ _ _ _ _ _ wr => ∃ k : Nat, k ≤ min len 200 ∧ i = .int .i64 k ∧ Hid (Pl w wr w.heap.size w.heap.size g2) ∧ Hid (Only [] w wr)) (fun i _ _ _ _ _ _ _ _ _ => 200 - (RowKit.intOf i).toNat)
  case atStart => exact ⟨0, by omega, rfl, HI0, Q0⟩
  case round =>
    clear HI0 Q0
    obtain ⟨k, hk, rfl, HT, Q⟩ := hrel
    obtain ⟨t, v, D, ht⟩ := HT.out
    have H := hid ht; clear ht HT
    have HSD := hid H.out.T.srt; have HLD := hid H.out.T.len
    by_cases hlt : k < len
    · by_cases h2 : k < 200
      · obtain ⟨b, off, rfl, hb, hc⟩ := (HA.out.only_nil Q.out).cells (by omega)
        obtain ⟨q0, q1, q2, q3, q4, q5⟩ := hc k hlt
        have hwf := HA.out.rd k hlt
        have HN1 := hid (u32Bd hwf.2.1); have HN5 := hid (u32Bd hwf.2.2.2.2.2)
        clear hc hwf
        generalize V0 k = x0 at *; generalize V1 k = x1 at *; generalize V2 k = x2 at *; generalize V3 k = x3 at *; generalize V4 k = x4 at *; generalize V5 k = x5 at *
        obtain ⟨WX, hWX⟩ : ∃ WX, wr.alloc (.cells #[.int .i64 x0, .int .u32 x1, .int .i64 x2, .int .u32 x3, .int .i64 x4, .int .u32 x5] 36) = WX := ⟨_, rfl⟩
        have OX : Hid (Ob WX wr.heap.size 36 #[.int .i64 x0, .int .u32 x1, .int .i64 x2, .int .u32 x3, .int .i64 x4, .int .u32 x5]) := hid (by rw [← hWX]; exact Ob.new _ _ _)
        have oX : Only [] wr WX := by rw [← hWX]; exact (Only.refl [] wr).alloc _
        have HXT : Hid (wr.heap.size ∉ w.heap.size :: t.bks) := hid (fun hm => by
          rcases List.mem_cons.1 hm with h1 | h1
          · have := H.out.T.ob.lt; omega
          · have := (Tr.okm_lt H.out.T.okm _ h1).2; omega)
        have HX := hid (H.out.nil oX); have QX := hid (Q.out.trans oX)
        clear oX
        by_cases hk1 : x0 = 1
        · have z1 : (x0 == 1) = true := by simpa using hk1
          have z2 := OX.out.cell 0
          have HK1 := hid hk1; clear hk1
          go_wp2_with fail
          clear q0 q1 q2 q3 q4 q5 z1 z2 hWX
          refine wp_region_noPanic ?_
          refine rgn.regionT (R := AnyW) (by kernel_rfl) (fun _ => AnyW.any _ _) (fun _ _ _ _ _ => AnyW.any _ _) (fun _ _ _ _ _ h => h) (.y 0 (.y 1 (.y 4 (.y 5 (.b 2 6 (.b 3 6 (.e 6 (.e 7 (.y 8 (.e 9 .z)))) (.e 3 (.e 7 (.y 8 (.e 9 .z))))) (.e 2 (.e 3 (.e 7 (.y 8 (.e 9 .z)))))))))) (by kernel_rfl) (fun W hWd => ?_)
          have HWd := hid hWd; clear hWd
          have q8 : Only [] WX W := Only.eq_drew (Only.refl [] _) HWd.out
          have HW := hid (HX.out.nil q8); have QW := hid (QX.out.trans q8); have OXW := hid (OX.out.only q8 (by simp))
          clear q8 HWd
          refine rgn.Walk.ys (v := ?_) rfl rfl rfl ?_ ?_
          rotate_left 1
          · intro W' hW'
            go_simp
            try with_reducible rfl
          try simp only [Act.put, List.setIfInBounds_toArray, List.set_cons_zero, List.set_cons_succ]
          refine rgn.Walk.ys (v := ?_) rfl rfl rfl ?_ ?_
          rotate_left 1
          · intro W' hW'
            go_simp
            try with_reducible rfl
          try simp only [Act.put, List.setIfInBounds_toArray, List.set_cons_zero, List.set_cons_succ]
          refine rgn.Walk.ys (v := ?_) rfl rfl rfl ?_ ?_
          rotate_left 1
          · intro W' hW'
            go_simp
            try with_reducible rfl
          try simp only [Act.put, List.setIfInBounds_toArray, List.set_cons_zero, List.set_cons_succ]
          refine rgn.Walk.ys (v := ?_) rfl rfl rfl ?_ ?_
          rotate_left 1
          · intro W' hW'
            go_simp
            try with_reducible rfl
          try simp only [Act.put, List.setIfInBounds_toArray, List.set_cons_zero, List.set_cons_succ]
          refine rgn.Walk.bs ?_ ?_
          · refine rgn.stepE rfl rfl (fun K hK => ?_)
            have y1 := OXW.out.cell 1; have y2 := OXW.out.cell 2; have y3 := OXW.out.cell 3; have y4 := OXW.out.cell 4
            go_simp
            refine hK _ _ (AnyW.any _ _) ?_
            clear hK K y1 y2 y3 y4
            try simp only [Act.put, List.setIfInBounds_toArray, List.set_cons_zero, List.set_cons_succ]
            refine rgn.Walk.bs ?_ ?_
            · refine rgn.stepE rfl rfl (fun K hK => ?_)
              go_simp
              refine (addT W w.heap.size w.heap.size t D ⟨x1, x2, x3, x4⟩ HW.out.T QW.out.size HN1.out).mono ?_
              rintro x w5 ⟨e1, D1, t1, rfl, a1, s1⟩
              refine hK _ _ (AnyW.any _ _) ?_
              clear hK K
              have H5 := hid (HW.out.left s1); have Q5 := hid (s1.quiet HW.out.T (Nat.le_refl _) QW.out (Nat.le_refl _)); replace OXW := hid (OXW.out.only s1.only HXT.out)
              clear s1
              try simp only [Act.put, List.setIfInBounds_toArray, List.set_cons_zero, List.set_cons_succ]
              refine rgn.Walk.es ?_
              refine rgn.stepE rfl rfl (fun K hK => ?_)
              have y1 := OXW.out.cell 1; have y2 := OXW.out.cell 2; have y3 := OXW.out.cell 3; have y4 := OXW.out.cell 4
              go_simp
              refine hK _ _ (AnyW.any _ _) ?_
              clear hK K y1 y2 y3 y4
              try simp only [Act.put, List.setIfInBounds_toArray, List.set_cons_zero, List.set_cons_succ]
              refine rgn.Walk.es ?_
              refine rgn.stepE rfl rfl (fun K hK => ?_)
              go_simp
              refine (addD w5 w.heap.size g2 v D ⟨x1, x2, x3, x4⟩ H5.out.U HSD.out HLD.out Q5.out.size HN1.out).mono ?_
              rintro x w6 ⟨e2, D2, v2, rfl, a2, s2⟩
              refine hK _ _ (AnyW.any _ _) ?_
              clear hK K
              have H6 := hid (H5.out.right s2); have Q6 := hid (s2.quiet Q5.out (Nat.le_of_lt HNE.out))
              obtain ⟨he, hD⟩ := a1.uniq a2
              subst he; subst hD
              clear a1 a2 s2 H5
              try simp only [Act.put, List.setIfInBounds_toArray, List.set_cons_zero, List.set_cons_succ]
              refine rgn.Walk.ys (v := ?_) rfl rfl rfl ?_ ?_
              rotate_left 1
              · intro W' hW'
                go_simp
                try with_reducible rfl
              try simp only [Act.put, List.setIfInBounds_toArray, List.set_cons_zero, List.set_cons_succ]
              refine rgn.Walk.es ?_
              refine rgn.stepE rfl rfl (fun K hK => ?_)
              go_simp
              refine hK _ _ (AnyW.any _ _) ?_
              clear hK K
              try simp only [Act.put, List.setIfInBounds_toArray, List.set_cons_zero, List.set_cons_succ]
              refine rgn.Walk.zs (NoPanic.normal ?_)
              have HC := H6; have QC := Q6
              clear H6 Q6
              go_wp2_with fail
              refine (allT w6 w.heap.size w.heap.size _ _ HC.out.T).mono ?_
              rintro x w7 ⟨v7, rfl, hv7, o7⟩
              have HV7 := hid hv7
              obtain ⟨A7, c7, e7, hnc7, -, -, r7, -, hA7⟩ := RdS.of_own hv7 (rws_one enc_one _)
              subst e7
              obtain ⟨Av, cv, ev, -, -, -, rv, -, -⟩ := RdS.of_own (HC.out.nil o7).U.own (rws_one enc_one _)
              have HU := hid (HC.out.nil o7).U.ob
              rw [ev] at HU
              have R7 := hid r7; have RV := hid rv; have O7 := hid o7; have HNC := hid hnc7; have HA7 := hid hA7
              have k0 := HU.out.cell 0
              clear r7 rv hv7 o7 ev hnc7 hA7
              go_wp2_with fail
              clear k0
              refine (rows1 w7 A7 Av _ c7 cv _ R7.out RV.out rfl (by have := HC.out.T.len; omega)).mono ?_
              rintro x w8 ⟨rfl, o8⟩
              have O8 := hid (O7.out.trans o8); have V8 := hid (own_only_nil HV7.out o8)
              clear o8
              have HLn := hid HC.out.T.len
              go_wp2_with fail
              go_loopw [13] (fun i wq => ∃ m : Nat, m ≤ D1.length ∧ i = .int .i64 m ∧ Hid (Only [] w6 wq) ∧ Hid (∀ gb, A7 = some ⟨gb, 0, none⟩ → w6.heap.size ≤ gb ∧ ∃ cur, Ob wq gb 34 cur ∧ cur.size = c7 * 4)) (fun i _ => D1.length - (RowKit.intOf i).toNat)
              case atStart => exact ⟨0, by omega, rfl, O8, hid (fun gb e => by
                subst e
                rcases V8.out.2 with ⟨e9, _⟩ | ⟨p, cap, cur, e9, hp, hh, _, _, hs, _⟩
                · cases e9
                · injection e9 with e1 e2 e3; injection e1 with e1; injection e1 with e1; subst e1; subst e3
                  exact ⟨hp, cur, hh, hs⟩)⟩
              case round =>
                obtain ⟨m, hm, rfl, OQ, HB⟩ := hrel
                by_cases hmn : m < D1.length
                · obtain ⟨gb, hgb⟩ : ∃ gb, A7 = some ⟨gb, 0, none⟩ := by
                    rcases HA7.out with h9 | h9
                    · exfalso; rw [h9] at V8; rcases V8.out.2 with ⟨_, e8⟩ | ⟨_, _, _, e9, _⟩; omega; cases e9
                    · exact h9
                  subst hgb
                  obtain ⟨hle, cur, ho, hsz⟩ := HB.out gb rfl
                  have hnc := HNC.out
                  have hmc : m * 4 + 4 ≤ cur.size := by rw [hsz]; omega
                  have e0 := ho.cell (m * 4); have e1 := ho.cell (m * 4 + 1); have e2 := ho.cell (m * 4 + 2); have e3 := ho.cell (m * 4 + 3)
                  rw [Array.getElem?_eq_getElem (by omega)] at e0 e1 e2 e3
                  have f0 := ho.frozen (m * 4); have f1 := ho.frozen (m * 4 + 1); have f2 := ho.frozen (m * 4 + 2); have f3 := ho.frozen (m * 4 + 3)
                  obtain ⟨w9, hw9⟩ : ∃ x, (((wr.setCell ⟨gb, m * 4, none⟩ (.int .u32 0)).setCell ⟨gb, m * 4 + 1, none⟩ (.int .i64 0)).setCell ⟨gb, m * 4 + 2, none⟩ (.int .u32 0)).setCell ⟨gb, m * 4 + 3, none⟩ (.int .i64 (-9)) = x := ⟨_, rfl⟩
                  have OQ9 : Hid (Only [] w6 w9) := hid (by rw [← hw9]; exact (((OQ.out.setCell (p := ⟨gb, m * 4, none⟩) (.inr hle) _).setCell (p := ⟨gb, m * 4 + 1, none⟩) (.inr hle) _).setCell (p := ⟨gb, m * 4 + 2, none⟩) (.inr hle) _).setCell (p := ⟨gb, m * 4 + 3, none⟩) (.inr hle) _)
                  have HB9 : Hid (∀ gb2, some (⟨gb, 0, none⟩ : Addr) = some ⟨gb2, 0, none⟩ → w6.heap.size ≤ gb2 ∧ ∃ cur, Ob w9 gb2 34 cur ∧ cur.size = c7 * 4) := hid (fun gb2 e => by
                    injection e with e; injection e with e; subst e
                    refine ⟨hle, _, by rw [← hw9]; exact (((ho.set _ _).set _ _).set _ _).set _ _, ?_⟩
                    simpa using hsz)
                  have hm64 : m < 64 := by have := HLn.out; omega
                  clear ho hnc hle
                  go_wp2_with fail
                  go_roundw
                  case rel => exact ⟨m + 1, by omega, by first | rfl | go_num, OQ9, HB9⟩
                  case measure => simp [RowKit.intOf]; omega
                · obtain ⟨wq, hwq⟩ : ∃ wq, wq = wr := ⟨_, rfl⟩
                  subst hwq
                  have HI : Hid (Pl w wq w.heap.size w.heap.size g2) := hid ⟨_, _, _, HC.out.nil OQ.out⟩
                  have QE := hid (QC.out.trans OQ.out)
                  go_wp2_with fail
                  go_roundw
                  case rel => exact ⟨k + 1, by omega, by first | rfl | go_num, HI, QE⟩
                  case measure => simp [RowKit.intOf]; omega
            · refine rgn.stepE rfl rfl (fun K hK => ?_)
              have y1 := OXW.out.cell 1; have y2 := OXW.out.cell 2; have y3 := OXW.out.cell 3; have y4 := OXW.out.cell 4
              go_simp
              refine hK _ _ (AnyW.any _ _) ?_
              clear hK K y1 y2 y3 y4
              try simp only [Act.put, List.setIfInBounds_toArray, List.set_cons_zero, List.set_cons_succ]
              refine rgn.Walk.es ?_
              refine rgn.stepE rfl rfl (fun K hK => ?_)
              go_simp
              refine (addT W w.heap.size w.heap.size t D ⟨x1, x2, x3, x4⟩ HW.out.T QW.out.size HN1.out).mono ?_
              rintro x w5 ⟨e1, D1, t1, rfl, a1, s1⟩
              refine hK _ _ (AnyW.any _ _) ?_
              clear hK K
              have H5 := hid (HW.out.left s1); have Q5 := hid (s1.quiet HW.out.T (Nat.le_refl _) QW.out (Nat.le_refl _)); replace OXW := hid (OXW.out.only s1.only HXT.out)
              clear s1
              try simp only [Act.put, List.setIfInBounds_toArray, List.set_cons_zero, List.set_cons_succ]
              refine rgn.Walk.es ?_
              refine rgn.stepE rfl rfl (fun K hK => ?_)
              go_simp
              refine (addD w5 w.heap.size g2 v D ⟨x1, x2, x3, x4⟩ H5.out.U HSD.out HLD.out Q5.out.size HN1.out).mono ?_
              rintro x w6 ⟨e2, D2, v2, rfl, a2, s2⟩
              refine hK _ _ (AnyW.any _ _) ?_
              clear hK K
              have H6 := hid (H5.out.right s2); have Q6 := hid (s2.quiet Q5.out (Nat.le_of_lt HNE.out))
              obtain ⟨he, hD⟩ := a1.uniq a2
              subst he; subst hD
              clear a1 a2 s2 H5
              try simp only [Act.put, List.setIfInBounds_toArray, List.set_cons_zero, List.set_cons_succ]
              refine rgn.Walk.ys (v := ?_) rfl rfl rfl ?_ ?_
              rotate_left 1
              · intro W' hW'
                go_simp
                try with_reducible rfl
              try simp only [Act.put, List.setIfInBounds_toArray, List.set_cons_zero, List.set_cons_succ]
              refine rgn.Walk.es ?_
              refine rgn.stepE rfl rfl (fun K hK => ?_)
              go_simp
              refine hK _ _ (AnyW.any _ _) ?_
              clear hK K
              try simp only [Act.put, List.setIfInBounds_toArray, List.set_cons_zero, List.set_cons_succ]
              refine rgn.Walk.zs (NoPanic.normal ?_)
              have HC := H6; have QC := Q6
              clear H6 Q6
              go_wp2_with fail
              refine (allT w6 w.heap.size w.heap.size _ _ HC.out.T).mono ?_
              rintro x w7 ⟨v7, rfl, hv7, o7⟩
              have HV7 := hid hv7
              obtain ⟨A7, c7, e7, hnc7, -, -, r7, -, hA7⟩ := RdS.of_own hv7 (rws_one enc_one _)
              subst e7
              obtain ⟨Av, cv, ev, -, -, -, rv, -, -⟩ := RdS.of_own (HC.out.nil o7).U.own (rws_one enc_one _)
              have HU := hid (HC.out.nil o7).U.ob
              rw [ev] at HU
              have R7 := hid r7; have RV := hid rv; have O7 := hid o7; have HNC := hid hnc7; have HA7 := hid hA7
              have k0 := HU.out.cell 0
              clear r7 rv hv7 o7 ev hnc7 hA7
              go_wp2_with fail
              clear k0
              refine (rows1 w7 A7 Av _ c7 cv _ R7.out RV.out rfl (by have := HC.out.T.len; omega)).mono ?_
              rintro x w8 ⟨rfl, o8⟩
              have O8 := hid (O7.out.trans o8); have V8 := hid (own_only_nil HV7.out o8)
              clear o8
              have HLn := hid HC.out.T.len
              go_wp2_with fail
              go_loopw [13] (fun i wq => ∃ m : Nat, m ≤ D1.length ∧ i = .int .i64 m ∧ Hid (Only [] w6 wq) ∧ Hid (∀ gb, A7 = some ⟨gb, 0, none⟩ → w6.heap.size ≤ gb ∧ ∃ cur, Ob wq gb 34 cur ∧ cur.size = c7 * 4)) (fun i _ => D1.length - (RowKit.intOf i).toNat)
              case atStart => exact ⟨0, by omega, rfl, O8, hid (fun gb e => by
                subst e
                rcases V8.out.2 with ⟨e9, _⟩ | ⟨p, cap, cur, e9, hp, hh, _, _, hs, _⟩
                · cases e9
                · injection e9 with e1 e2 e3; injection e1 with e1; injection e1 with e1; subst e1; subst e3
                  exact ⟨hp, cur, hh, hs⟩)⟩
              case round =>
                obtain ⟨m, hm, rfl, OQ, HB⟩ := hrel
                by_cases hmn : m < D1.length
                · obtain ⟨gb, hgb⟩ : ∃ gb, A7 = some ⟨gb, 0, none⟩ := by
                    rcases HA7.out with h9 | h9
                    · exfalso; rw [h9] at V8; rcases V8.out.2 with ⟨_, e8⟩ | ⟨_, _, _, e9, _⟩; omega; cases e9
                    · exact h9
                  subst hgb
                  obtain ⟨hle, cur, ho, hsz⟩ := HB.out gb rfl
                  have hnc := HNC.out
                  have hmc : m * 4 + 4 ≤ cur.size := by rw [hsz]; omega
                  have e0 := ho.cell (m * 4); have e1 := ho.cell (m * 4 + 1); have e2 := ho.cell (m * 4 + 2); have e3 := ho.cell (m * 4 + 3)
                  rw [Array.getElem?_eq_getElem (by omega)] at e0 e1 e2 e3
                  have f0 := ho.frozen (m * 4); have f1 := ho.frozen (m * 4 + 1); have f2 := ho.frozen (m * 4 + 2); have f3 := ho.frozen (m * 4 + 3)
                  obtain ⟨w9, hw9⟩ : ∃ x, (((wr.setCell ⟨gb, m * 4, none⟩ (.int .u32 0)).setCell ⟨gb, m * 4 + 1, none⟩ (.int .i64 0)).setCell ⟨gb, m * 4 + 2, none⟩ (.int .u32 0)).setCell ⟨gb, m * 4 + 3, none⟩ (.int .i64 (-9)) = x := ⟨_, rfl⟩
                  have OQ9 : Hid (Only [] w6 w9) := hid (by rw [← hw9]; exact (((OQ.out.setCell (p := ⟨gb, m * 4, none⟩) (.inr hle) _).setCell (p := ⟨gb, m * 4 + 1, none⟩) (.inr hle) _).setCell (p := ⟨gb, m * 4 + 2, none⟩) (.inr hle) _).setCell (p := ⟨gb, m * 4 + 3, none⟩) (.inr hle) _)
                  have HB9 : Hid (∀ gb2, some (⟨gb, 0, none⟩ : Addr) = some ⟨gb2, 0, none⟩ → w6.heap.size ≤ gb2 ∧ ∃ cur, Ob w9 gb2 34 cur ∧ cur.size = c7 * 4) := hid (fun gb2 e => by
                    injection e with e; injection e with e; subst e
                    refine ⟨hle, _, by rw [← hw9]; exact (((ho.set _ _).set _ _).set _ _).set _ _, ?_⟩
                    simpa using hsz)
                  have hm64 : m < 64 := by have := HLn.out; omega
                  clear ho hnc hle
                  go_wp2_with fail
                  go_roundw
                  case rel => exact ⟨m + 1, by omega, by first | rfl | go_num, OQ9, HB9⟩
                  case measure => simp [RowKit.intOf]; omega
                · obtain ⟨wq, hwq⟩ : ∃ wq, wq = wr := ⟨_, rfl⟩
                  subst hwq
                  have HI : Hid (Pl w wq w.heap.size w.heap.size g2) := hid ⟨_, _, _, HC.out.nil OQ.out⟩
                  have QE := hid (QC.out.trans OQ.out)
                  go_wp2_with fail
                  go_roundw
                  case rel => exact ⟨k + 1, by omega, by first | rfl | go_num, HI, QE⟩
                  case measure => simp [RowKit.intOf]; omega
          · refine rgn.stepE rfl rfl (fun K hK => ?_)
            have y1 := OXW.out.cell 1; have y2 := OXW.out.cell 2; have y3 := OXW.out.cell 3; have y4 := OXW.out.cell 4
            go_simp
            refine hK _ _ (AnyW.any _ _) ?_
            clear hK K y1 y2 y3 y4
            try simp only [Act.put, List.setIfInBounds_toArray, List.set_cons_zero, List.set_cons_succ]
            refine rgn.Walk.es ?_
            refine rgn.stepE rfl rfl (fun K hK => ?_)
            have y1 := OXW.out.cell 1; have y2 := OXW.out.cell 2; have y3 := OXW.out.cell 3; have y4 := OXW.out.cell 4
            go_simp
            refine hK _ _ (AnyW.any _ _) ?_
            clear hK K y1 y2 y3 y4
            try simp only [Act.put, List.setIfInBounds_toArray, List.set_cons_zero, List.set_cons_succ]
            refine rgn.Walk.es ?_
            refine rgn.stepE rfl rfl (fun K hK => ?_)
            go_simp
            refine (addT W w.heap.size w.heap.size t D ⟨x1, x2, x3, x4⟩ HW.out.T QW.out.size HN1.out).mono ?_
            rintro x w5 ⟨e1, D1, t1, rfl, a1, s1⟩
            refine hK _ _ (AnyW.any _ _) ?_
            clear hK K
            have H5 := hid (HW.out.left s1); have Q5 := hid (s1.quiet HW.out.T (Nat.le_refl _) QW.out (Nat.le_refl _)); replace OXW := hid (OXW.out.only s1.only HXT.out)
            clear s1
            try simp only [Act.put, List.setIfInBounds_toArray, List.set_cons_zero, List.set_cons_succ]
            refine rgn.Walk.es ?_
            refine rgn.stepE rfl rfl (fun K hK => ?_)
            go_simp
            refine (addD w5 w.heap.size g2 v D ⟨x1, x2, x3, x4⟩ H5.out.U HSD.out HLD.out Q5.out.size HN1.out).mono ?_
            rintro x w6 ⟨e2, D2, v2, rfl, a2, s2⟩
            refine hK _ _ (AnyW.any _ _) ?_
            clear hK K
            have H6 := hid (H5.out.right s2); have Q6 := hid (s2.quiet Q5.out (Nat.le_of_lt HNE.out))
            obtain ⟨he, hD⟩ := a1.uniq a2
            subst he; subst hD
            clear a1 a2 s2 H5
            try simp only [Act.put, List.setIfInBounds_toArray, List.set_cons_zero, List.set_cons_succ]
            refine rgn.Walk.ys (v := ?_) rfl rfl rfl ?_ ?_
            rotate_left 1
            · intro W' hW'
              go_simp
              try with_reducible rfl
            try simp only [Act.put, List.setIfInBounds_toArray, List.set_cons_zero, List.set_cons_succ]
            refine rgn.Walk.es ?_
            refine rgn.stepE rfl rfl (fun K hK => ?_)
            go_simp
            refine hK _ _ (AnyW.any _ _) ?_
            clear hK K
            try simp only [Act.put, List.setIfInBounds_toArray, List.set_cons_zero, List.set_cons_succ]
            refine rgn.Walk.zs (NoPanic.normal ?_)
            have HC := H6; have QC := Q6
            clear H6 Q6
            go_wp2_with fail
            refine (allT w6 w.heap.size w.heap.size _ _ HC.out.T).mono ?_
            rintro x w7 ⟨v7, rfl, hv7, o7⟩
            have HV7 := hid hv7
            obtain ⟨A7, c7, e7, hnc7, -, -, r7, -, hA7⟩ := RdS.of_own hv7 (rws_one enc_one _)
            subst e7
            obtain ⟨Av, cv, ev, -, -, -, rv, -, -⟩ := RdS.of_own (HC.out.nil o7).U.own (rws_one enc_one _)
            have HU := hid (HC.out.nil o7).U.ob
            rw [ev] at HU
            have R7 := hid r7; have RV := hid rv; have O7 := hid o7; have HNC := hid hnc7; have HA7 := hid hA7
            have k0 := HU.out.cell 0
            clear r7 rv hv7 o7 ev hnc7 hA7
            go_wp2_with fail
            clear k0
            refine (rows1 w7 A7 Av _ c7 cv _ R7.out RV.out rfl (by have := HC.out.T.len; omega)).mono ?_
            rintro x w8 ⟨rfl, o8⟩
            have O8 := hid (O7.out.trans o8); have V8 := hid (own_only_nil HV7.out o8)
            clear o8
            have HLn := hid HC.out.T.len
            go_wp2_with fail
            go_loopw [13] (fun i wq => ∃ m : Nat, m ≤ D1.length ∧ i = .int .i64 m ∧ Hid (Only [] w6 wq) ∧ Hid (∀ gb, A7 = some ⟨gb, 0, none⟩ → w6.heap.size ≤ gb ∧ ∃ cur, Ob wq gb 34 cur ∧ cur.size = c7 * 4)) (fun i _ => D1.length - (RowKit.intOf i).toNat)
            case atStart => exact ⟨0, by omega, rfl, O8, hid (fun gb e => by
              subst e
              rcases V8.out.2 with ⟨e9, _⟩ | ⟨p, cap, cur, e9, hp, hh, _, _, hs, _⟩
              · cases e9
              · injection e9 with e1 e2 e3; injection e1 with e1; injection e1 with e1; subst e1; subst e3
                exact ⟨hp, cur, hh, hs⟩)⟩
            case round =>
              obtain ⟨m, hm, rfl, OQ, HB⟩ := hrel
              by_cases hmn : m < D1.length
              · obtain ⟨gb, hgb⟩ : ∃ gb, A7 = some ⟨gb, 0, none⟩ := by
                  rcases HA7.out with h9 | h9
                  · exfalso; rw [h9] at V8; rcases V8.out.2 with ⟨_, e8⟩ | ⟨_, _, _, e9, _⟩; omega; cases e9
                  · exact h9
                subst hgb
                obtain ⟨hle, cur, ho, hsz⟩ := HB.out gb rfl
                have hnc := HNC.out
                have hmc : m * 4 + 4 ≤ cur.size := by rw [hsz]; omega
                have e0 := ho.cell (m * 4); have e1 := ho.cell (m * 4 + 1); have e2 := ho.cell (m * 4 + 2); have e3 := ho.cell (m * 4 + 3)
                rw [Array.getElem?_eq_getElem (by omega)] at e0 e1 e2 e3
                have f0 := ho.frozen (m * 4); have f1 := ho.frozen (m * 4 + 1); have f2 := ho.frozen (m * 4 + 2); have f3 := ho.frozen (m * 4 + 3)
                obtain ⟨w9, hw9⟩ : ∃ x, (((wr.setCell ⟨gb, m * 4, none⟩ (.int .u32 0)).setCell ⟨gb, m * 4 + 1, none⟩ (.int .i64 0)).setCell ⟨gb, m * 4 + 2, none⟩ (.int .u32 0)).setCell ⟨gb, m * 4 + 3, none⟩ (.int .i64 (-9)) = x := ⟨_, rfl⟩
                have OQ9 : Hid (Only [] w6 w9) := hid (by rw [← hw9]; exact (((OQ.out.setCell (p := ⟨gb, m * 4, none⟩) (.inr hle) _).setCell (p := ⟨gb, m * 4 + 1, none⟩) (.inr hle) _).setCell (p := ⟨gb, m * 4 + 2, none⟩) (.inr hle) _).setCell (p := ⟨gb, m * 4 + 3, none⟩) (.inr hle) _)
                have HB9 : Hid (∀ gb2, some (⟨gb, 0, none⟩ : Addr) = some ⟨gb2, 0, none⟩ → w6.heap.size ≤ gb2 ∧ ∃ cur, Ob w9 gb2 34 cur ∧ cur.size = c7 * 4) := hid (fun gb2 e => by
                  injection e with e; injection e with e; subst e
                  refine ⟨hle, _, by rw [← hw9]; exact (((ho.set _ _).set _ _).set _ _).set _ _, ?_⟩
                  simpa using hsz)
                have hm64 : m < 64 := by have := HLn.out; omega
                clear ho hnc hle
                go_wp2_with fail
                go_roundw
                case rel => exact ⟨m + 1, by omega, by first | rfl | go_num, OQ9, HB9⟩
                case measure => simp [RowKit.intOf]; omega
              · obtain ⟨wq, hwq⟩ : ∃ wq, wq = wr := ⟨_, rfl⟩
                subst hwq
                have HI : Hid (Pl w wq w.heap.size w.heap.size g2) := hid ⟨_, _, _, HC.out.nil OQ.out⟩
                have QE := hid (QC.out.trans OQ.out)
                go_wp2_with fail
                go_roundw
                case rel => exact ⟨k + 1, by omega, by first | rfl | go_num, HI, QE⟩
                case measure => simp [RowKit.intOf]; omega
        · have z1 : (x0 == 1) = false := by simpa using hk1
          clear hk1
          by_cases hk2 : x0 = 2
          · have z3 : (x0 == 2) = true := by simpa using hk2
            have z2 := OX.out.cell 0
            clear hk2
            go_wp2_with fail
            clear q0 q1 q2 q3 q4 q5 z1 z2 z3 hWX
            refine wp_region_noPanic ?_
            refine rgn.regionT (R := AnyW) (by kernel_rfl) (fun _ => AnyW.any _ _) (fun _ _ _ _ _ => AnyW.any _ _) (fun _ _ _ _ _ h => h) (.y 0 (.y 1 (.y 4 (.y 5 (.b 2 6 (.b 3 6 (.e 6 (.e 7 (.y 8 (.e 9 .z)))) (.e 3 (.e 7 (.y 8 (.e 9 .z))))) (.e 2 (.e 3 (.e 7 (.y 8 (.e 9 .z)))))))))) (by kernel_rfl) (fun W hWd => ?_)
            have HWd := hid hWd; clear hWd
            have q8 : Only [] WX W := Only.eq_drew (Only.refl [] _) HWd.out
            have HW := hid (HX.out.nil q8); have QW := hid (QX.out.trans q8); have OXW := hid (OX.out.only q8 (by simp))
            clear q8 HWd
            refine rgn.Walk.ys (v := ?_) rfl rfl rfl ?_ ?_
            rotate_left 1
            · intro W' hW'
              go_simp
              try with_reducible rfl
            try simp only [Act.put, List.setIfInBounds_toArray, List.set_cons_zero, List.set_cons_succ]
            refine rgn.Walk.ys (v := ?_) rfl rfl rfl ?_ ?_
            rotate_left 1
            · intro W' hW'
              go_simp
              try with_reducible rfl
            try simp only [Act.put, List.setIfInBounds_toArray, List.set_cons_zero, List.set_cons_succ]
            refine rgn.Walk.ys (v := ?_) rfl rfl rfl ?_ ?_
            rotate_left 1
            · intro W' hW'
              go_simp
              try with_reducible rfl
            try simp only [Act.put, List.setIfInBounds_toArray, List.set_cons_zero, List.set_cons_succ]
            refine rgn.Walk.ys (v := ?_) rfl rfl rfl ?_ ?_
            rotate_left 1
            · intro W' hW'
              go_simp
              try with_reducible rfl
            try simp only [Act.put, List.setIfInBounds_toArray, List.set_cons_zero, List.set_cons_succ]
            refine rgn.Walk.bs ?_ ?_
            · refine rgn.stepE rfl rfl (fun K hK => ?_)
              have y1 := OXW.out.cell 1; have y2 := OXW.out.cell 2; have y3 := OXW.out.cell 3; have y4 := OXW.out.cell 4
              go_simp
              refine hK _ _ (AnyW.any _ _) ?_
              clear hK K y1 y2 y3 y4
              try simp only [Act.put, List.setIfInBounds_toArray, List.set_cons_zero, List.set_cons_succ]
              refine rgn.Walk.bs ?_ ?_
              · refine rgn.stepE rfl rfl (fun K hK => ?_)
                go_simp
                refine (removeT W w.heap.size w.heap.size t D ⟨x1, x2, x3, x4⟩ HW.out.T QW.out.size HN1.out).mono ?_
                rintro x w5 ⟨e1, D1, t1, rfl, a1, s1⟩
                refine hK _ _ (AnyW.any _ _) ?_
                clear hK K
                have H5 := hid (HW.out.left s1); have Q5 := hid (s1.quiet HW.out.T (Nat.le_refl _) QW.out (Nat.le_refl _)); replace OXW := hid (OXW.out.only s1.only HXT.out)
                clear s1
                try simp only [Act.put, List.setIfInBounds_toArray, List.set_cons_zero, List.set_cons_succ]
                refine rgn.Walk.es ?_
                refine rgn.stepE rfl rfl (fun K hK => ?_)
                have y1 := OXW.out.cell 1; have y2 := OXW.out.cell 2; have y3 := OXW.out.cell 3; have y4 := OXW.out.cell 4
                go_simp
                refine hK _ _ (AnyW.any _ _) ?_
                clear hK K y1 y2 y3 y4
                try simp only [Act.put, List.setIfInBounds_toArray, List.set_cons_zero, List.set_cons_succ]
                refine rgn.Walk.es ?_
                refine rgn.stepE rfl rfl (fun K hK => ?_)
                go_simp
                refine (removeD w5 w.heap.size g2 v D ⟨x1, x2, x3, x4⟩ H5.out.U HSD.out HLD.out Q5.out.size).mono ?_
                rintro x w6 ⟨e2, D2, v2, rfl, a2, s2⟩
                refine hK _ _ (AnyW.any _ _) ?_
                clear hK K
                have H6 := hid (H5.out.right s2); have Q6 := hid (s2.quiet Q5.out (Nat.le_of_lt HNE.out))
                obtain ⟨he, hD⟩ := a1.uniq HSD.out a2
                subst he; subst hD
                clear a1 a2 s2 H5
                try simp only [Act.put, List.setIfInBounds_toArray, List.set_cons_zero, List.set_cons_succ]
                refine rgn.Walk.ys (v := ?_) rfl rfl rfl ?_ ?_
                rotate_left 1
                · intro W' hW'
                  go_simp
                  try with_reducible rfl
                try simp only [Act.put, List.setIfInBounds_toArray, List.set_cons_zero, List.set_cons_succ]
                refine rgn.Walk.es ?_
                refine rgn.stepE rfl rfl (fun K hK => ?_)
                go_simp
                refine hK _ _ (AnyW.any _ _) ?_
                clear hK K
                try simp only [Act.put, List.setIfInBounds_toArray, List.set_cons_zero, List.set_cons_succ]
                refine rgn.Walk.zs (NoPanic.normal ?_)
                have HC := H6; have QC := Q6
                clear H6 Q6
                go_wp2_with fail
                refine (allT w6 w.heap.size w.heap.size _ _ HC.out.T).mono ?_
                rintro x w7 ⟨v7, rfl, hv7, o7⟩
                have HV7 := hid hv7
                obtain ⟨A7, c7, e7, hnc7, -, -, r7, -, hA7⟩ := RdS.of_own hv7 (rws_one enc_one _)
                subst e7
                obtain ⟨Av, cv, ev, -, -, -, rv, -, -⟩ := RdS.of_own (HC.out.nil o7).U.own (rws_one enc_one _)
                have HU := hid (HC.out.nil o7).U.ob
                rw [ev] at HU
                have R7 := hid r7; have RV := hid rv; have O7 := hid o7; have HNC := hid hnc7; have HA7 := hid hA7
                have k0 := HU.out.cell 0
                clear r7 rv hv7 o7 ev hnc7 hA7
                go_wp2_with fail
                clear k0
                refine (rows1 w7 A7 Av _ c7 cv _ R7.out RV.out rfl (by have := HC.out.T.len; omega)).mono ?_
                rintro x w8 ⟨rfl, o8⟩
                have O8 := hid (O7.out.trans o8); have V8 := hid (own_only_nil HV7.out o8)
                clear o8
                have HLn := hid HC.out.T.len
                go_wp2_with fail
                go_loopw [13] (fun i wq => ∃ m : Nat, m ≤ D1.length ∧ i = .int .i64 m ∧ Hid (Only [] w6 wq) ∧ Hid (∀ gb, A7 = some ⟨gb, 0, none⟩ → w6.heap.size ≤ gb ∧ ∃ cur, Ob wq gb 34 cur ∧ cur.size = c7 * 4)) (fun i _ => D1.length - (RowKit.intOf i).toNat)
                case atStart => exact ⟨0, by omega, rfl, O8, hid (fun gb e => by
                  subst e
                  rcases V8.out.2 with ⟨e9, _⟩ | ⟨p, cap, cur, e9, hp, hh, _, _, hs, _⟩
                  · cases e9
                  · injection e9 with e1 e2 e3; injection e1 with e1; injection e1 with e1; subst e1; subst e3
                    exact ⟨hp, cur, hh, hs⟩)⟩
                case round =>
                  obtain ⟨m, hm, rfl, OQ, HB⟩ := hrel
                  by_cases hmn : m < D1.length
                  · obtain ⟨gb, hgb⟩ : ∃ gb, A7 = some ⟨gb, 0, none⟩ := by
                      rcases HA7.out with h9 | h9
                      · exfalso; rw [h9] at V8; rcases V8.out.2 with ⟨_, e8⟩ | ⟨_, _, _, e9, _⟩; omega; cases e9
                      · exact h9
                    subst hgb
                    obtain ⟨hle, cur, ho, hsz⟩ := HB.out gb rfl
                    have hnc := HNC.out
                    have hmc : m * 4 + 4 ≤ cur.size := by rw [hsz]; omega
                    have e0 := ho.cell (m * 4); have e1 := ho.cell (m * 4 + 1); have e2 := ho.cell (m * 4 + 2); have e3 := ho.cell (m * 4 + 3)
                    rw [Array.getElem?_eq_getElem (by omega)] at e0 e1 e2 e3
                    have f0 := ho.frozen (m * 4); have f1 := ho.frozen (m * 4 + 1); have f2 := ho.frozen (m * 4 + 2); have f3 := ho.frozen (m * 4 + 3)
                    obtain ⟨w9, hw9⟩ : ∃ x, (((wr.setCell ⟨gb, m * 4, none⟩ (.int .u32 0)).setCell ⟨gb, m * 4 + 1, none⟩ (.int .i64 0)).setCell ⟨gb, m * 4 + 2, none⟩ (.int .u32 0)).setCell ⟨gb, m * 4 + 3, none⟩ (.int .i64 (-9)) = x := ⟨_, rfl⟩
                    have OQ9 : Hid (Only [] w6 w9) := hid (by rw [← hw9]; exact (((OQ.out.setCell (p := ⟨gb, m * 4, none⟩) (.inr hle) _).setCell (p := ⟨gb, m * 4 + 1, none⟩) (.inr hle) _).setCell (p := ⟨gb, m * 4 + 2, none⟩) (.inr hle) _).setCell (p := ⟨gb, m * 4 + 3, none⟩) (.inr hle) _)
                    have HB9 : Hid (∀ gb2, some (⟨gb, 0, none⟩ : Addr) = some ⟨gb2, 0, none⟩ → w6.heap.size ≤ gb2 ∧ ∃ cur, Ob w9 gb2 34 cur ∧ cur.size = c7 * 4) := hid (fun gb2 e => by
                      injection e with e; injection e with e; subst e
                      refine ⟨hle, _, by rw [← hw9]; exact (((ho.set _ _).set _ _).set _ _).set _ _, ?_⟩
                      simpa using hsz)
                    have hm64 : m < 64 := by have := HLn.out; omega
                    clear ho hnc hle
                    go_wp2_with fail
                    go_roundw
                    case rel => exact ⟨m + 1, by omega, by first | rfl | go_num, OQ9, HB9⟩
                    case measure => simp [RowKit.intOf]; omega
                  · obtain ⟨wq, hwq⟩ : ∃ wq, wq = wr := ⟨_, rfl⟩
                    subst hwq
                    have HI : Hid (Pl w wq w.heap.size w.heap.size g2) := hid ⟨_, _, _, HC.out.nil OQ.out⟩
                    have QE := hid (QC.out.trans OQ.out)
                    go_wp2_with fail
                    go_roundw
                    case rel => exact ⟨k + 1, by omega, by first | rfl | go_num, HI, QE⟩
                    case measure => simp [RowKit.intOf]; omega
              · refine rgn.stepE rfl rfl (fun K hK => ?_)
                have y1 := OXW.out.cell 1; have y2 := OXW.out.cell 2; have y3 := OXW.out.cell 3; have y4 := OXW.out.cell 4
                go_simp
                refine hK _ _ (AnyW.any _ _) ?_
                clear hK K y1 y2 y3 y4
                try simp only [Act.put, List.setIfInBounds_toArray, List.set_cons_zero, List.set_cons_succ]
                refine rgn.Walk.es ?_
                refine rgn.stepE rfl rfl (fun K hK => ?_)
                go_simp
                refine (removeT W w.heap.size w.heap.size t D ⟨x1, x2, x3, x4⟩ HW.out.T QW.out.size HN1.out).mono ?_
                rintro x w5 ⟨e1, D1, t1, rfl, a1, s1⟩
                refine hK _ _ (AnyW.any _ _) ?_
                clear hK K
                have H5 := hid (HW.out.left s1); have Q5 := hid (s1.quiet HW.out.T (Nat.le_refl _) QW.out (Nat.le_refl _)); replace OXW := hid (OXW.out.only s1.only HXT.out)
                clear s1
                try simp only [Act.put, List.setIfInBounds_toArray, List.set_cons_zero, List.set_cons_succ]
                refine rgn.Walk.es ?_
                refine rgn.stepE rfl rfl (fun K hK => ?_)
                go_simp
                refine (removeD w5 w.heap.size g2 v D ⟨x1, x2, x3, x4⟩ H5.out.U HSD.out HLD.out Q5.out.size).mono ?_
                rintro x w6 ⟨e2, D2, v2, rfl, a2, s2⟩
                refine hK _ _ (AnyW.any _ _) ?_
                clear hK K
                have H6 := hid (H5.out.right s2); have Q6 := hid (s2.quiet Q5.out (Nat.le_of_lt HNE.out))
                obtain ⟨he, hD⟩ := a1.uniq HSD.out a2
                subst he; subst hD
                clear a1 a2 s2 H5
                try simp only [Act.put, List.setIfInBounds_toArray, List.set_cons_zero, List.set_cons_succ]
                refine rgn.Walk.ys (v := ?_) rfl rfl rfl ?_ ?_
                rotate_left 1
                · intro W' hW'
                  go_simp
                  try with_reducible rfl
                try simp only [Act.put, List.setIfInBounds_toArray, List.set_cons_zero, List.set_cons_succ]
                refine rgn.Walk.es ?_
                refine rgn.stepE rfl rfl (fun K hK => ?_)
                go_simp
                refine hK _ _ (AnyW.any _ _) ?_
                clear hK K
                try simp only [Act.put, List.setIfInBounds_toArray, List.set_cons_zero, List.set_cons_succ]
                refine rgn.Walk.zs (NoPanic.normal ?_)
                have HC := H6; have QC := Q6
                clear H6 Q6
                go_wp2_with fail
                refine (allT w6 w.heap.size w.heap.size _ _ HC.out.T).mono ?_
                rintro x w7 ⟨v7, rfl, hv7, o7⟩
                have HV7 := hid hv7
                obtain ⟨A7, c7, e7, hnc7, -, -, r7, -, hA7⟩ := RdS.of_own hv7 (rws_one enc_one _)
                subst e7
                obtain ⟨Av, cv, ev, -, -, -, rv, -, -⟩ := RdS.of_own (HC.out.nil o7).U.own (rws_one enc_one _)
                have HU := hid (HC.out.nil o7).U.ob
                rw [ev] at HU
                have R7 := hid r7; have RV := hid rv; have O7 := hid o7; have HNC := hid hnc7; have HA7 := hid hA7
                have k0 := HU.out.cell 0
                clear r7 rv hv7 o7 ev hnc7 hA7
                go_wp2_with fail
                clear k0
                refine (rows1 w7 A7 Av _ c7 cv _ R7.out RV.out rfl (by have := HC.out.T.len; omega)).mono ?_
                rintro x w8 ⟨rfl, o8⟩
                have O8 := hid (O7.out.trans o8); have V8 := hid (own_only_nil HV7.out o8)
                clear o8
                have HLn := hid HC.out.T.len
                go_wp2_with fail
                go_loopw [13] (fun i wq => ∃ m : Nat, m ≤ D1.length ∧ i = .int .i64 m ∧ Hid (Only [] w6 wq) ∧ Hid (∀ gb, A7 = some ⟨gb, 0, none⟩ → w6.heap.size ≤ gb ∧ ∃ cur, Ob wq gb 34 cur ∧ cur.size = c7 * 4)) (fun i _ => D1.length - (RowKit.intOf i).toNat)
                case atStart => exact ⟨0, by omega, rfl, O8, hid (fun gb e => by
                  subst e
                  rcases V8.out.2 with ⟨e9, _⟩ | ⟨p, cap, cur, e9, hp, hh, _, _, hs, _⟩
                  · cases e9
                  · injection e9 with e1 e2 e3; injection e1 with e1; injection e1 with e1; subst e1; subst e3
                    exact ⟨hp, cur, hh, hs⟩)⟩
                case round =>
                  obtain ⟨m, hm, rfl, OQ, HB⟩ := hrel
                  by_cases hmn : m < D1.length
                  · obtain ⟨gb, hgb⟩ : ∃ gb, A7 = some ⟨gb, 0, none⟩ := by
                      rcases HA7.out with h9 | h9
                      · exfalso; rw [h9] at V8; rcases V8.out.2 with ⟨_, e8⟩ | ⟨_, _, _, e9, _⟩; omega; cases e9
                      · exact h9
                    subst hgb
                    obtain ⟨hle, cur, ho, hsz⟩ := HB.out gb rfl
                    have hnc := HNC.out
                    have hmc : m * 4 + 4 ≤ cur.size := by rw [hsz]; omega
                    have e0 := ho.cell (m * 4); have e1 := ho.cell (m * 4 + 1); have e2 := ho.cell (m * 4 + 2); have e3 := ho.cell (m * 4 + 3)
                    rw [Array.getElem?_eq_getElem (by omega)] at e0 e1 e2 e3
                    have f0 := ho.frozen (m * 4); have f1 := ho.frozen (m * 4 + 1); have f2 := ho.frozen (m * 4 + 2); have f3 := ho.frozen (m * 4 + 3)
                    obtain ⟨w9, hw9⟩ : ∃ x, (((wr.setCell ⟨gb, m * 4, none⟩ (.int .u32 0)).setCell ⟨gb, m * 4 + 1, none⟩ (.int .i64 0)).setCell ⟨gb, m * 4 + 2, none⟩ (.int .u32 0)).setCell ⟨gb, m * 4 + 3, none⟩ (.int .i64 (-9)) = x := ⟨_, rfl⟩
                    have OQ9 : Hid (Only [] w6 w9) := hid (by rw [← hw9]; exact (((OQ.out.setCell (p := ⟨gb, m * 4, none⟩) (.inr hle) _).setCell (p := ⟨gb, m * 4 + 1, none⟩) (.inr hle) _).setCell (p := ⟨gb, m * 4 + 2, none⟩) (.inr hle) _).setCell (p := ⟨gb, m * 4 + 3, none⟩) (.inr hle) _)
                    have HB9 : Hid (∀ gb2, some (⟨gb, 0, none⟩ : Addr) = some ⟨gb2, 0, none⟩ → w6.heap.size ≤ gb2 ∧ ∃ cur, Ob w9 gb2 34 cur ∧ cur.size = c7 * 4) := hid (fun gb2 e => by
                      injection e with e; injection e with e; subst e
                      refine ⟨hle, _, by rw [← hw9]; exact (((ho.set _ _).set _ _).set _ _).set _ _, ?_⟩
                      simpa using hsz)
                    have hm64 : m < 64 := by have := HLn.out; omega
                    clear ho hnc hle
                    go_wp2_with fail
                    go_roundw
                    case rel => exact ⟨m + 1, by omega, by first | rfl | go_num, OQ9, HB9⟩
                    case measure => simp [RowKit.intOf]; omega
                  · obtain ⟨wq, hwq⟩ : ∃ wq, wq = wr := ⟨_, rfl⟩
                    subst hwq
                    have HI : Hid (Pl w wq w.heap.size w.heap.size g2) := hid ⟨_, _, _, HC.out.nil OQ.out⟩
                    have QE := hid (QC.out.trans OQ.out)
                    go_wp2_with fail
                    go_roundw
                    case rel => exact ⟨k + 1, by omega, by first | rfl | go_num, HI, QE⟩
                    case measure => simp [RowKit.intOf]; omega
            · refine rgn.stepE rfl rfl (fun K hK => ?_)
              have y1 := OXW.out.cell 1; have y2 := OXW.out.cell 2; have y3 := OXW.out.cell 3; have y4 := OXW.out.cell 4
              go_simp
              refine hK _ _ (AnyW.any _ _) ?_
              clear hK K y1 y2 y3 y4
              try simp only [Act.put, List.setIfInBounds_toArray, List.set_cons_zero, List.set_cons_succ]
              refine rgn.Walk.es ?_
              refine rgn.stepE rfl rfl (fun K hK => ?_)
              have y1 := OXW.out.cell 1; have y2 := OXW.out.cell 2; have y3 := OXW.out.cell 3; have y4 := OXW.out.cell 4
              go_simp
              refine hK _ _ (AnyW.any _ _) ?_
              clear hK K y1 y2 y3 y4
              try simp only [Act.put, List.setIfInBounds_toArray, List.set_cons_zero, List.set_cons_succ]
              refine rgn.Walk.es ?_
              refine rgn.stepE rfl rfl (fun K hK => ?_)
              go_simp
              refine (removeT W w.heap.size w.heap.size t D ⟨x1, x2, x3, x4⟩ HW.out.T QW.out.size HN1.out).mono ?_
              rintro x w5 ⟨e1, D1, t1, rfl, a1, s1⟩
              refine hK _ _ (AnyW.any _ _) ?_
              clear hK K
              have H5 := hid (HW.out.left s1); have Q5 := hid (s1.quiet HW.out.T (Nat.le_refl _) QW.out (Nat.le_refl _)); replace OXW := hid (OXW.out.only s1.only HXT.out)
              clear s1
              try simp only [Act.put, List.setIfInBounds_toArray, List.set_cons_zero, List.set_cons_succ]
              refine rgn.Walk.es ?_
              refine rgn.stepE rfl rfl (fun K hK => ?_)
              go_simp
              refine (removeD w5 w.heap.size g2 v D ⟨x1, x2, x3, x4⟩ H5.out.U HSD.out HLD.out Q5.out.size).mono ?_
              rintro x w6 ⟨e2, D2, v2, rfl, a2, s2⟩
              refine hK _ _ (AnyW.any _ _) ?_
              clear hK K
              have H6 := hid (H5.out.right s2); have Q6 := hid (s2.quiet Q5.out (Nat.le_of_lt HNE.out))
              obtain ⟨he, hD⟩ := a1.uniq HSD.out a2
              subst he; subst hD
              clear a1 a2 s2 H5
              try simp only [Act.put, List.setIfInBounds_toArray, List.set_cons_zero, List.set_cons_succ]
              refine rgn.Walk.ys (v := ?_) rfl rfl rfl ?_ ?_
              rotate_left 1
              · intro W' hW'
                go_simp
                try with_reducible rfl
              try simp only [Act.put, List.setIfInBounds_toArray, List.set_cons_zero, List.set_cons_succ]
              refine rgn.Walk.es ?_
              refine rgn.stepE rfl rfl (fun K hK => ?_)
              go_simp
              refine hK _ _ (AnyW.any _ _) ?_
              clear hK K
              try simp only [Act.put, List.setIfInBounds_toArray, List.set_cons_zero, List.set_cons_succ]
              refine rgn.Walk.zs (NoPanic.normal ?_)
              have HC := H6; have QC := Q6
              clear H6 Q6
              go_wp2_with fail
              refine (allT w6 w.heap.size w.heap.size _ _ HC.out.T).mono ?_
              rintro x w7 ⟨v7, rfl, hv7, o7⟩
              have HV7 := hid hv7
              obtain ⟨A7, c7, e7, hnc7, -, -, r7, -, hA7⟩ := RdS.of_own hv7 (rws_one enc_one _)
              subst e7
              obtain ⟨Av, cv, ev, -, -, -, rv, -, -⟩ := RdS.of_own (HC.out.nil o7).U.own (rws_one enc_one _)
              have HU := hid (HC.out.nil o7).U.ob
              rw [ev] at HU
              have R7 := hid r7; have RV := hid rv; have O7 := hid o7; have HNC := hid hnc7; have HA7 := hid hA7
              have k0 := HU.out.cell 0
              clear r7 rv hv7 o7 ev hnc7 hA7
              go_wp2_with fail
              clear k0
              refine (rows1 w7 A7 Av _ c7 cv _ R7.out RV.out rfl (by have := HC.out.T.len; omega)).mono ?_
              rintro x w8 ⟨rfl, o8⟩
              have O8 := hid (O7.out.trans o8); have V8 := hid (own_only_nil HV7.out o8)
              clear o8
              have HLn := hid HC.out.T.len
              go_wp2_with fail
              go_loopw [13] (fun i wq => ∃ m : Nat, m ≤ D1.length ∧ i = .int .i64 m ∧ Hid (Only [] w6 wq) ∧ Hid (∀ gb, A7 = some ⟨gb, 0, none⟩ → w6.heap.size ≤ gb ∧ ∃ cur, Ob wq gb 34 cur ∧ cur.size = c7 * 4)) (fun i _ => D1.length - (RowKit.intOf i).toNat)
              case atStart => exact ⟨0, by omega, rfl, O8, hid (fun gb e => by
                subst e
                rcases V8.out.2 with ⟨e9, _⟩ | ⟨p, cap, cur, e9, hp, hh, _, _, hs, _⟩
                · cases e9
                · injection e9 with e1 e2 e3; injection e1 with e1; injection e1 with e1; subst e1; subst e3
                  exact ⟨hp, cur, hh, hs⟩)⟩
              case round =>
                obtain ⟨m, hm, rfl, OQ, HB⟩ := hrel
                by_cases hmn : m < D1.length
                · obtain ⟨gb, hgb⟩ : ∃ gb, A7 = some ⟨gb, 0, none⟩ := by
                    rcases HA7.out with h9 | h9
                    · exfalso; rw [h9] at V8; rcases V8.out.2 with ⟨_, e8⟩ | ⟨_, _, _, e9, _⟩; omega; cases e9
                    · exact h9
                  subst hgb
                  obtain ⟨hle, cur, ho, hsz⟩ := HB.out gb rfl
                  have hnc := HNC.out
                  have hmc : m * 4 + 4 ≤ cur.size := by rw [hsz]; omega
                  have e0 := ho.cell (m * 4); have e1 := ho.cell (m * 4 + 1); have e2 := ho.cell (m * 4 + 2); have e3 := ho.cell (m * 4 + 3)
                  rw [Array.getElem?_eq_getElem (by omega)] at e0 e1 e2 e3
                  have f0 := ho.frozen (m * 4); have f1 := ho.frozen (m * 4 + 1); have f2 := ho.frozen (m * 4 + 2); have f3 := ho.frozen (m * 4 + 3)
                  obtain ⟨w9, hw9⟩ : ∃ x, (((wr.setCell ⟨gb, m * 4, none⟩ (.int .u32 0)).setCell ⟨gb, m * 4 + 1, none⟩ (.int .i64 0)).setCell ⟨gb, m * 4 + 2, none⟩ (.int .u32 0)).setCell ⟨gb, m * 4 + 3, none⟩ (.int .i64 (-9)) = x := ⟨_, rfl⟩
                  have OQ9 : Hid (Only [] w6 w9) := hid (by rw [← hw9]; exact (((OQ.out.setCell (p := ⟨gb, m * 4, none⟩) (.inr hle) _).setCell (p := ⟨gb, m * 4 + 1, none⟩) (.inr hle) _).setCell (p := ⟨gb, m * 4 + 2, none⟩) (.inr hle) _).setCell (p := ⟨gb, m * 4 + 3, none⟩) (.inr hle) _)
                  have HB9 : Hid (∀ gb2, some (⟨gb, 0, none⟩ : Addr) = some ⟨gb2, 0, none⟩ → w6.heap.size ≤ gb2 ∧ ∃ cur, Ob w9 gb2 34 cur ∧ cur.size = c7 * 4) := hid (fun gb2 e => by
                    injection e with e; injection e with e; subst e
                    refine ⟨hle, _, by rw [← hw9]; exact (((ho.set _ _).set _ _).set _ _).set _ _, ?_⟩
                    simpa using hsz)
                  have hm64 : m < 64 := by have := HLn.out; omega
                  clear ho hnc hle
                  go_wp2_with fail
                  go_roundw
                  case rel => exact ⟨m + 1, by omega, by first | rfl | go_num, OQ9, HB9⟩
                  case measure => simp [RowKit.intOf]; omega
                · obtain ⟨wq, hwq⟩ : ∃ wq, wq = wr := ⟨_, rfl⟩
                  subst hwq
                  have HI : Hid (Pl w wq w.heap.size w.heap.size g2) := hid ⟨_, _, _, HC.out.nil OQ.out⟩
                  have QE := hid (QC.out.trans OQ.out)
                  go_wp2_with fail
                  go_roundw
                  case rel => exact ⟨k + 1, by omega, by first | rfl | go_num, HI, QE⟩
                  case measure => simp [RowKit.intOf]; omega
          · have z3 : (x0 == 2) = false := by simpa using hk2
            have z2 := OX.out.cell 0; have z5 := OX.out.cell 5
            clear hk2
            go_wp2_with fail
            clear q0 q1 q2 q3 q4 q5 z1 z2 z3 z5 hWX
            refine (finT WX w.heap.size w.heap.size t D x5 HX.out.T HN5.out).mono ?_
            rintro x w5 ⟨⟨u1, e1, rfl, hf1⟩, o5⟩
            have H5 := hid (HX.out.nil o5); have Q5 := hid (QX.out.trans o5); have OX5 := hid (OX.out.only o5 (by simp)); have HF1 := hid hf1
            clear o5
            obtain ⟨yn, yb, yv, ym, hu⟩ : ∃ yn yb yv ym, u1 = .agg #[.int .u32 yn, .int .i64 yb, .int .u32 yv, .int .i64 ym] := by rcases hf1 with ⟨_, rfl, _⟩ | ⟨r, _, rfl, _⟩; exact ⟨_, _, _, _, rfl⟩; exact ⟨_, _, _, _, rfl⟩
            subst hu
            clear hf1
            obtain ⟨W5, hW5⟩ : ∃ W5, w5.alloc (.cells #[.int .u32 yn, .int .i64 yb, .int .u32 yv, .int .i64 ym] 34) = W5 := ⟨_, rfl⟩
            have OR5 : Hid (Ob W5 w5.heap.size 34 #[.int .u32 yn, .int .i64 yb, .int .u32 yv, .int .i64 ym]) := hid (by rw [← hW5]; exact Ob.new _ _ _)
            have oR : Only [] w5 W5 := by rw [← hW5]; exact (Only.refl [] w5).alloc _
            have H6 := hid (H5.out.nil oR); have Q6 := hid (Q5.out.trans oR); have OX6 := hid (OX5.out.only oR (by simp))
            clear oR
            have z5 := OX6.out.cell 5
            go_wp2_with fail
            clear z5 hW5
            refine (findD W5 w.heap.size g2 v D x5 H6.out.U HSD.out (fun y hy => H6.out.T.ok hy) HLD.out HN5.out).mono ?_
            rintro x w6 ⟨⟨u2, e2, rfl, hf2⟩, o6⟩
            have H7 := hid (H6.out.nil o6); have Q7 := hid (Q6.out.trans o6); have OR6 := hid (OR5.out.only o6 (by simp))
            obtain ⟨he, hu⟩ := hf2.uniq HSD.out HF1.out
            subst he; subst hu
            clear hf2 o6
            obtain ⟨W6, hW6⟩ : ∃ W6, w6.alloc (.cells #[.int .u32 yn, .int .i64 yb, .int .u32 yv, .int .i64 ym] 34) = W6 := ⟨_, rfl⟩
            have OS6 : Hid (Ob W6 w6.heap.size 34 #[.int .u32 yn, .int .i64 yb, .int .u32 yv, .int .i64 ym]) := hid (by rw [← hW6]; exact Ob.new _ _ _)
            have oR : Only [] w6 W6 := by rw [← hW6]; exact (Only.refl [] w6).alloc _
            have H8 := hid (H7.out.nil oR); have Q8 := hid (Q7.out.trans oR); have OR8 := hid (OR6.out.only oR (by simp))
            clear oR
            have a0 := OR8.out.cell 0; have a1 := OR8.out.cell 1; have a2 := OR8.out.cell 2; have a3 := OR8.out.cell 3
            have b0 := OS6.out.cell 0; have b1 := OS6.out.cell 1; have b2 := OS6.out.cell 2; have b3 := OS6.out.cell 3
            have eqq := eqRt yn yb yv ym
            go_wp2_with fail
            clear a0 a1 a2 a3 b0 b1 b2 b3 hW6 eqq
            have HC := H8; have QC := Q8
            refine (allT W6 w.heap.size w.heap.size _ _ HC.out.T).mono ?_
            rintro x w7 ⟨v7, rfl, hv7, o7⟩
            have HV7 := hid hv7
            obtain ⟨A7, c7, e7, hnc7, -, -, r7, -, hA7⟩ := RdS.of_own hv7 (rws_one enc_one _)
            subst e7
            obtain ⟨Av, cv, ev, -, -, -, rv, -, -⟩ := RdS.of_own (HC.out.nil o7).U.own (rws_one enc_one _)
            have HU := hid (HC.out.nil o7).U.ob
            rw [ev] at HU
            have R7 := hid r7; have RV := hid rv; have O7 := hid o7; have HNC := hid hnc7; have HA7 := hid hA7
            have k0 := HU.out.cell 0
            clear r7 rv hv7 o7 ev hnc7 hA7
            go_wp2_with fail
            clear k0
            refine (rows1 w7 A7 Av _ c7 cv _ R7.out RV.out rfl (by have := HC.out.T.len; omega)).mono ?_
            rintro x w8 ⟨rfl, o8⟩
            have O8 := hid (O7.out.trans o8); have V8 := hid (own_only_nil HV7.out o8)
            clear o8
            have HLn := hid HC.out.T.len
            go_wp2_with fail
            go_loopw [13] (fun i wq => ∃ m : Nat, m ≤ D.length ∧ i = .int .i64 m ∧ Hid (Only [] W6 wq) ∧ Hid (∀ gb, A7 = some ⟨gb, 0, none⟩ → W6.heap.size ≤ gb ∧ ∃ cur, Ob wq gb 34 cur ∧ cur.size = c7 * 4)) (fun i _ => D.length - (RowKit.intOf i).toNat)
            case atStart => exact ⟨0, by omega, rfl, O8, hid (fun gb e => by
              subst e
              rcases V8.out.2 with ⟨e9, _⟩ | ⟨p, cap, cur, e9, hp, hh, _, _, hs, _⟩
              · cases e9
              · injection e9 with e1 e2 e3; injection e1 with e1; injection e1 with e1; subst e1; subst e3
                exact ⟨hp, cur, hh, hs⟩)⟩
            case round =>
              obtain ⟨m, hm, rfl, OQ, HB⟩ := hrel
              by_cases hmn : m < D.length
              · obtain ⟨gb, hgb⟩ : ∃ gb, A7 = some ⟨gb, 0, none⟩ := by
                  rcases HA7.out with h9 | h9
                  · exfalso; rw [h9] at V8; rcases V8.out.2 with ⟨_, e8⟩ | ⟨_, _, _, e9, _⟩; omega; cases e9
                  · exact h9
                subst hgb
                obtain ⟨hle, cur, ho, hsz⟩ := HB.out gb rfl
                have hnc := HNC.out
                have hmc : m * 4 + 4 ≤ cur.size := by rw [hsz]; omega
                have e0 := ho.cell (m * 4); have e1 := ho.cell (m * 4 + 1); have e2 := ho.cell (m * 4 + 2); have e3 := ho.cell (m * 4 + 3)
                rw [Array.getElem?_eq_getElem (by omega)] at e0 e1 e2 e3
                have f0 := ho.frozen (m * 4); have f1 := ho.frozen (m * 4 + 1); have f2 := ho.frozen (m * 4 + 2); have f3 := ho.frozen (m * 4 + 3)
                obtain ⟨w9, hw9⟩ : ∃ x, (((wr.setCell ⟨gb, m * 4, none⟩ (.int .u32 0)).setCell ⟨gb, m * 4 + 1, none⟩ (.int .i64 0)).setCell ⟨gb, m * 4 + 2, none⟩ (.int .u32 0)).setCell ⟨gb, m * 4 + 3, none⟩ (.int .i64 (-9)) = x := ⟨_, rfl⟩
                have OQ9 : Hid (Only [] W6 w9) := hid (by rw [← hw9]; exact (((OQ.out.setCell (p := ⟨gb, m * 4, none⟩) (.inr hle) _).setCell (p := ⟨gb, m * 4 + 1, none⟩) (.inr hle) _).setCell (p := ⟨gb, m * 4 + 2, none⟩) (.inr hle) _).setCell (p := ⟨gb, m * 4 + 3, none⟩) (.inr hle) _)
                have HB9 : Hid (∀ gb2, some (⟨gb, 0, none⟩ : Addr) = some ⟨gb2, 0, none⟩ → W6.heap.size ≤ gb2 ∧ ∃ cur, Ob w9 gb2 34 cur ∧ cur.size = c7 * 4) := hid (fun gb2 e => by
                  injection e with e; injection e with e; subst e
                  refine ⟨hle, _, by rw [← hw9]; exact (((ho.set _ _).set _ _).set _ _).set _ _, ?_⟩
                  simpa using hsz)
                have hm64 : m < 64 := by have := HLn.out; omega
                clear ho hnc hle
                go_wp2_with fail
                go_roundw
                case rel => exact ⟨m + 1, by omega, by first | rfl | go_num, OQ9, HB9⟩
                case measure => simp [RowKit.intOf]; omega
              · obtain ⟨wq, hwq⟩ : ∃ wq, wq = wr := ⟨_, rfl⟩
                subst hwq
                have HI : Hid (Pl w wq w.heap.size w.heap.size g2) := hid ⟨_, _, _, HC.out.nil OQ.out⟩
                have QE := hid (QC.out.trans OQ.out)
                go_wp2_with fail
                go_roundw
                case rel => exact ⟨k + 1, by omega, by first | rfl | go_num, HI, QE⟩
                case measure => simp [RowKit.intOf]; omega
      · have hk200 : k = 200 := by omega
        subst hk200
        go_wp2_with fail
        refine wp_region_noPanic ?_
        refine rgn.regionT (R := Only []) (by kernel_rfl) (Only.refl []) (fun _ _ _ => Only.trans) (fun _ _ _ _ _ h => h) (.y 0 (.y 2 (.y 3 (.y 4 (.y 5 (.e 1 (.e 6 (.y 7 (.e 8 (.y 9 (.e 10 .z))))))))))) (by kernel_rfl) (fun W hWd => ?_)
        have HWd := hid hWd; clear hWd
        have q8 : Only [] wr W := Only.eq_drew (Only.refl [] _) HWd.out
        have HW := hid (H.out.nil q8); have QW := hid (Q.out.trans q8)
        obtain ⟨Av, cv, ev, -, -, -, rv, -, -⟩ := RdS.of_own HW.out.U.own (rws_one enc_one _)
        have HU := hid HW.out.U.ob
        rw [ev] at HU
        have RV := hid rv
        clear q8 HWd ev rv
        refine rgn.Walk.ys (v := ?_) rfl rfl rfl ?_ ?_
        rotate_left 1
        · intro W' hW'
          go_simp
          try with_reducible rfl
        try simp only [Act.put, List.setIfInBounds_toArray, List.set_cons_zero, List.set_cons_succ]
        refine rgn.Walk.ys (v := ?_) rfl rfl rfl ?_ ?_
        rotate_left 1
        · intro W' hW'
          go_simp
          try with_reducible rfl
        try simp only [Act.put, List.setIfInBounds_toArray, List.set_cons_zero, List.set_cons_succ]
        refine rgn.Walk.ys (v := ?_) rfl rfl rfl ?_ ?_
        rotate_left 1
        · intro W' hW'
          go_simp
          try with_reducible rfl
        try simp only [Act.put, List.setIfInBounds_toArray, List.set_cons_zero, List.set_cons_succ]
        refine rgn.Walk.ys (v := ?_) rfl rfl rfl ?_ ?_
        rotate_left 1
        · intro W' hW'
          go_simp
          try with_reducible rfl
        try simp only [Act.put, List.setIfInBounds_toArray, List.set_cons_zero, List.set_cons_succ]
        refine rgn.Walk.ys (v := ?_) rfl rfl rfl ?_ ?_
        rotate_left 1
        · intro W' hW'
          have q0 := hW'.keep (HU.out.cell 0)
          go_simp
          try with_reducible rfl
        try simp only [Act.put, List.setIfInBounds_toArray, List.set_cons_zero, List.set_cons_succ]
        refine rgn.Walk.es ?_
        refine rgn.stepE rfl rfl (fun K hK => ?_)
        go_simp
        refine (allT W w.heap.size w.heap.size t D HW.out.T).mono ?_
        rintro x w5 ⟨v5, rfl, hv5, o5⟩
        obtain ⟨A5, c5, e5, -, -, -, r5, -, -⟩ := RdS.of_own hv5 (rws_one enc_one _)
        subst e5
        refine hK _ _ o5 ?_
        clear hK K
        have R5 := hid r5; have H5 := hid (HW.out.nil o5); have Q5 := hid (QW.out.trans o5); have RV5 := hid (RV.out.only_nil o5)
        clear r5 hv5 o5
        try simp only [Act.put, List.setIfInBounds_toArray, List.set_cons_zero, List.set_cons_succ]
        refine rgn.Walk.es ?_
        refine rgn.stepE rfl rfl (fun K hK => ?_)
        go_simp
        refine (rows1 w5 A5 Av _ c5 cv _ R5.out RV5.out rfl (by have := HLD.out; omega)).mono ?_
        rintro x w6 ⟨rfl, o6⟩
        refine hK _ _ o6 ?_
        clear hK K
        have Q6 := hid (Q5.out.trans o6)
        clear o6
        try simp only [Act.put, List.setIfInBounds_toArray, List.set_cons_zero, List.set_cons_succ]
        refine rgn.Walk.ys (v := ?_) rfl rfl rfl ?_ ?_
        rotate_left 1
        · intro W' hW'
          go_simp
          try with_reducible rfl
        try simp only [Act.put, List.setIfInBounds_toArray, List.set_cons_zero, List.set_cons_succ]
        refine rgn.Walk.es ?_
        refine rgn.stepE rfl rfl (fun K hK => ?_)
        go_simp
        refine (known1 w6).mono ?_
        rintro x w7 ⟨rfl, o7⟩
        refine hK _ _ o7 ?_
        clear hK K
        have Q7 := hid (Q6.out.trans o7)
        clear o7
        try simp only [Act.put, List.setIfInBounds_toArray, List.set_cons_zero, List.set_cons_succ]
        refine rgn.Walk.ys (v := ?_) rfl rfl rfl ?_ ?_
        rotate_left 1
        · intro W' hW'
          go_simp
          try with_reducible rfl
        try simp only [Act.put, List.setIfInBounds_toArray, List.set_cons_zero, List.set_cons_succ]
        refine rgn.Walk.es ?_
        refine rgn.stepE rfl rfl (fun K hK => ?_)
        go_simp
        refine hK _ _ ((Only.refl []) _) ?_
        clear hK K
        try simp only [Act.put, List.setIfInBounds_toArray, List.set_cons_zero, List.set_cons_succ]
        refine rgn.Walk.zs (NoPanic.normal ?_)
        go_wp2_with fail
        go_ret
        exact ⟨rfl, Q7.out⟩
    · have hkl : ¬ (k : Int) < (len : Int) := by omega
      go_wp2_with fail
      refine wp_region_noPanic ?_
      refine rgn.regionT (R := Only []) (by kernel_rfl) (Only.refl []) (fun _ _ _ => Only.trans) (fun _ _ _ _ _ h => h) (.y 0 (.y 2 (.y 3 (.y 4 (.y 5 (.e 1 (.e 6 (.y 7 (.e 8 (.y 9 (.e 10 .z))))))))))) (by kernel_rfl) (fun W hWd => ?_)
      have HWd := hid hWd; clear hWd
      have q8 : Only [] wr W := Only.eq_drew (Only.refl [] _) HWd.out
      have HW := hid (H.out.nil q8); have QW := hid (Q.out.trans q8)
      obtain ⟨Av, cv, ev, -, -, -, rv, -, -⟩ := RdS.of_own HW.out.U.own (rws_one enc_one _)
      have HU := hid HW.out.U.ob
      rw [ev] at HU
      have RV := hid rv
      clear q8 HWd ev rv
      refine rgn.Walk.ys (v := ?_) rfl rfl rfl ?_ ?_
      rotate_left 1
      · intro W' hW'
        go_simp
        try with_reducible rfl
      try simp only [Act.put, List.setIfInBounds_toArray, List.set_cons_zero, List.set_cons_succ]
      refine rgn.Walk.ys (v := ?_) rfl rfl rfl ?_ ?_
      rotate_left 1
      · intro W' hW'
        go_simp
        try with_reducible rfl
      try simp only [Act.put, List.setIfInBounds_toArray, List.set_cons_zero, List.set_cons_succ]
      refine rgn.Walk.ys (v := ?_) rfl rfl rfl ?_ ?_
      rotate_left 1
      · intro W' hW'
        go_simp
        try with_reducible rfl
      try simp only [Act.put, List.setIfInBounds_toArray, List.set_cons_zero, List.set_cons_succ]
      refine rgn.Walk.ys (v := ?_) rfl rfl rfl ?_ ?_
      rotate_left 1
      · intro W' hW'
        go_simp
        try with_reducible rfl
      try simp only [Act.put, List.setIfInBounds_toArray, List.set_cons_zero, List.set_cons_succ]
      refine rgn.Walk.ys (v := ?_) rfl rfl rfl ?_ ?_
      rotate_left 1
      · intro W' hW'
        have q0 := hW'.keep (HU.out.cell 0)
        go_simp
        try with_reducible rfl
      try simp only [Act.put, List.setIfInBounds_toArray, List.set_cons_zero, List.set_cons_succ]
      refine rgn.Walk.es ?_
      refine rgn.stepE rfl rfl (fun K hK => ?_)
      go_simp
      refine (allT W w.heap.size w.heap.size t D HW.out.T).mono ?_
      rintro x w5 ⟨v5, rfl, hv5, o5⟩
      obtain ⟨A5, c5, e5, -, -, -, r5, -, -⟩ := RdS.of_own hv5 (rws_one enc_one _)
      subst e5
      refine hK _ _ o5 ?_
      clear hK K
      have R5 := hid r5; have H5 := hid (HW.out.nil o5); have Q5 := hid (QW.out.trans o5); have RV5 := hid (RV.out.only_nil o5)
      clear r5 hv5 o5
      try simp only [Act.put, List.setIfInBounds_toArray, List.set_cons_zero, List.set_cons_succ]
      refine rgn.Walk.es ?_
      refine rgn.stepE rfl rfl (fun K hK => ?_)
      go_simp
      refine (rows1 w5 A5 Av _ c5 cv _ R5.out RV5.out rfl (by have := HLD.out; omega)).mono ?_
      rintro x w6 ⟨rfl, o6⟩
      refine hK _ _ o6 ?_
      clear hK K
      have Q6 := hid (Q5.out.trans o6)
      clear o6
      try simp only [Act.put, List.setIfInBounds_toArray, List.set_cons_zero, List.set_cons_succ]
      refine rgn.Walk.ys (v := ?_) rfl rfl rfl ?_ ?_
      rotate_left 1
      · intro W' hW'
        go_simp
        try with_reducible rfl
      try simp only [Act.put, List.setIfInBounds_toArray, List.set_cons_zero, List.set_cons_succ]
      refine rgn.Walk.es ?_
      refine rgn.stepE rfl rfl (fun K hK => ?_)
      go_simp
      refine (known1 w6).mono ?_
      rintro x w7 ⟨rfl, o7⟩
      refine hK _ _ o7 ?_
      clear hK K
      have Q7 := hid (Q6.out.trans o7)
      clear o7
      try simp only [Act.put, List.setIfInBounds_toArray, List.set_cons_zero, List.set_cons_succ]
      refine rgn.Walk.ys (v := ?_) rfl rfl rfl ?_ ?_
      rotate_left 1
      · intro W' hW'
        go_simp
        try with_reducible rfl
      try simp only [Act.put, List.setIfInBounds_toArray, List.set_cons_zero, List.set_cons_succ]
      refine rgn.Walk.es ?_
      refine rgn.stepE rfl rfl (fun K hK => ?_)
      go_simp
      refine hK _ _ ((Only.refl []) _) ?_
      clear hK K
      try simp only [Act.put, List.setIfInBounds_toArray, List.set_cons_zero, List.set_cons_succ]
      refine rgn.Walk.zs (NoPanic.normal ?_)
      go_wp2_with fail
      go_ret
      exact ⟨rfl, Q7.out⟩
end Go.Proofs.Ytoidpakenocllaa.rou
