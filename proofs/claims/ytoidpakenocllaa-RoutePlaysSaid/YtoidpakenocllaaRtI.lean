/-
  Chapter 8 (route): the law RouteForgets, by a walk of its text. Conditions: none but those typed.
-/
import Derived.Test.YtoidpakenocllaaRtH
import Derived.Test.YtoidpakenocllaaOplRt
namespace Go.Proofs.Ytoidpakenocllaa.rou
set_option linter.unusedVariables false
set_option linter.unusedSimpArgs false
open Go.ChangeShapes Go.WideShapes Go.ChangeAt Go.RowKit Go.IntWalk Go.Lib
theorem TV.low {w : World} {base g x : Nat} {t : Tr} {D : List Rt} (H : TV w base g t D) (hg : base ≤ g) (hx : x < base) : x ∉ g :: t.bks := fun h => by
  rcases List.mem_cons.1 h with h | h
  · omega
  · have := (Tr.okm_lt H.okm x h).1; omega
theorem Key.refl (r : Rt) : Key r r := ⟨rfl, rfl, rfl⟩
set_option maxRecDepth 100000 in
set_option maxHeartbeats 8000000 in
theorem forgets (w : World) (A : Option Addr) (len c : Nat) (V0 V1 V2 V3 : Nat → Int) (h : OplRt w A len V0 V1 V2 V3) (rn rb rv rm : Int) (hr : 0 ≤ rn ∧ rn ≤ 4294967295) : Calls Try.prog 5 #[.slice A len c, .agg #[.int .u32 rn, .int .i64 rb, .int .u32 rv, .int .i64 rm]] w (fun e w' => e = .returned (.bool true) ∧ Only [] w w') := by
  have HA := hid h; clear h
  obtain ⟨W0, hW0⟩ : ∃ W0, w.alloc (.cells #[.int .u32 rn, .int .i64 rb, .int .u32 rv, .int .i64 rm] 34) = W0 := ⟨_, rfl⟩
  have OB : Hid (Ob W0 w.heap.size 34 #[.int .u32 rn, .int .i64 rb, .int .u32 rv, .int .i64 rm]) := hid (by rw [← hW0]; exact Ob.new _ _ _)
  have Q0 : Hid (Only [] w W0) := hid (by rw [← hW0]; exact (Only.refl [] w).alloc _)
  have HGL : Hid (w.heap.size ≤ W0.heap.size) := hid Q0.out.size
  have HLOW_OB : Hid (w.heap.size < W0.heap.size) := hid (by rw [← hW0]; simp)
  by_cases h200 : 200 < len
  · have Q := Q0
    go_enter Try.func5, Try.ntmps5
    go_wp2_with fail
    refine (known1 W0).mono ?_
    rintro x w1 ⟨rfl, o1⟩
    replace Q := hid (Q.out.trans o1); clear o1
    go_wp2_with fail
    go_ret
    exact ⟨rfl, Q.out⟩
  · obtain ⟨W1, hW1⟩ : ∃ W1, W0.alloc (.cells #[.pointer none, .int .i64 0] 26) = W1 := ⟨_, rfl⟩
    have H0 : Hid (TV W1 W0.heap.size W0.heap.size .nil []) := hid (by rw [← hW1]; exact TV.new W0 _)
    have q1 : Only [] W0 W1 := by rw [← hW1]; exact (Only.refl [] W0).alloc _
    have Q1 : Hid (Only [] w W1) := hid (Q0.out.trans q1)
    have OB1 := hid (OB.out.only q1 (by simp))
    clear q1
    go_enter Try.func5, Try.ntmps5
    go_wp2_with fail
    go_loopw [6] (fun i wr => ∃ k : Nat, k ≤ len ∧ i = .int .i64 k ∧ Hid (∃ t D, TV wr W0.heap.size W0.heap.size t D) ∧ Hid (Ob wr w.heap.size 34 #[.int .u32 rn, .int .i64 rb, .int .u32 rv, .int .i64 rm]) ∧ Hid (Only [] w wr)) (fun i _ => len - (RowKit.intOf i).toNat)
    case atStart => exact ⟨0, by omega, rfl, hid ⟨_, _, H0.out⟩, OB1, Q1⟩
    case round =>
      clear H0 OB OB1 Q1
      obtain ⟨k, hk, rfl, HT, OB, Q⟩ := hrel
      obtain ⟨t, D, ht⟩ := HT.out
      have H := hid ht; clear ht HT
      by_cases hlt : k < len
      · obtain ⟨b, off, rfl, hb, hc⟩ := (HA.out.only_nil Q.out).cells (by omega)
        obtain ⟨q0, q1, q2, q3⟩ := hc k hlt
        have hwf := (HA.out.rd k hlt).1
        clear hc
        generalize V0 k = a0 at *
        generalize V1 k = a1 at *
        generalize V2 k = a2 at *
        generalize V3 k = a3 at *
        have HB := hid (u32Bd hwf); clear hwf
        go_wp2_with fail
        clear q0 q1 q2 q3
        refine (addT wr W0.heap.size W0.heap.size t D ⟨a0, a1, a2, a3⟩ H.out (Nat.le_of_lt H.out.ob.lt) HB.out).mono ?_
        rintro x w1 ⟨e1, D1, t1, rfl, a1, s1⟩
        replace Q := hid (s1.quiet H.out (Nat.le_refl _) Q.out HGL.out)
        replace OB := hid (OB.out.only s1.only (H.out.low (Nat.le_refl _) HLOW_OB.out))
        replace H := hid s1.tv; clear s1
        have HT : Hid (∃ t D, TV w1 W0.heap.size W0.heap.size t D) := hid ⟨_, _, H.out⟩
        clear a1 H
        go_wp2_with fail
        go_roundw
        case rel => exact ⟨k + 1, by omega, by first | rfl | go_num, HT, OB, Q⟩
        case measure => simp [RowKit.intOf]; omega
      · go_wp2_with fail
        have HSD := hid H.out.srt
        refine (allT wr W0.heap.size W0.heap.size t D H.out).mono ?_
        rintro x w1 ⟨v1, rfl, hv1, o1⟩
        obtain ⟨A1, c1, e1, _, _, _, r1, _, _⟩ := RdS.of_own hv1 (rws_one enc_one _)
        subst e1
        have AP1 := hid (H.out.apart hv1)
        replace H := hid (H.out.nil o1); replace Q := hid (Q.out.trans o1)
        replace OB := hid (OB.out.only o1 (by simp))
        have R1 := hid r1; have V1 := hid hv1
        clear r1 hv1 o1
        have g0 := OB.out.cell 0; have g1 := OB.out.cell 1; have g2 := OB.out.cell 2; have g3 := OB.out.cell 3
        go_wp2_with fail
        clear g0 g1 g2 g3
        refine (addT w1 W0.heap.size W0.heap.size t D ⟨rn, rb, rv, rm⟩ H.out (Nat.le_of_lt H.out.ob.lt) hr).mono ?_
        rintro x w2 ⟨e2, D2, t2, rfl, a2, s2⟩
        replace Q := hid (s2.quiet H.out (Nat.le_refl _) Q.out HGL.out)
        have VV := s2.row V1.out AP1.out
        replace V1 := hid VV.1; replace AP1 := hid VV.2; clear VV
        obtain ⟨_, _, ev9, _, _, _, r9, _, _⟩ := RdS.of_own V1.out (rws_one enc_one _)
        injection ev9 with e91 e92 e93; subst e91
        replace R1 := hid r9; clear r9 e93
        replace OB := hid (OB.out.only s2.only (H.out.low (Nat.le_refl _) HLOW_OB.out))
        replace H := hid s2.tv; clear s2
        by_cases he : e2 = 0
        · have HS2 := hid H.out.srt
          obtain ⟨hvd, hnk, hl64, hp, hs⟩ : Vld ⟨rn, rb, rv, rm⟩ ∧ (∀ y ∈ D, ¬ Key y ⟨rn, rb, rv, rm⟩) ∧ D.length < 64 ∧ D2.Perm (⟨rn, rb, rv, rm⟩ :: D) ∧ Srt D2 := by
            rcases a2 with ⟨h1, _⟩ | ⟨h1, _⟩ | ⟨h1, _⟩ | ⟨_, h⟩
            · omega
            · omega
            · omega
            · exact h
          have HNK := hid hnk
          have hsD : Srt D := by
            have := HSD.out; exact this
          have HR2 : Hid (RemR D2 ⟨rn, rb, rv, rm⟩ 0 D) := hid (.inr ⟨rfl, ⟨rn, rb, rv, rm⟩, hp.mem_iff.2 (by simp), Key.refl _, hp.symm, hsD⟩)
          have HR3 : Hid (RemR D ⟨rn, rb, rv, rm⟩ 7 D) := hid (.inl ⟨rfl, hnk, rfl⟩)
          have hl : D2.length = D.length + 1 := by rw [hp.length_eq, List.length_cons]
          have hl2 : ((D2.length : Nat) : Int) = (D.length : Int) + 1 := by omega
          have HL64 := hid hl64
          subst he
          clear a2 hvd hnk hp hs hsD hl
          go_wp2_with fail
          refine (allT w2 W0.heap.size W0.heap.size t2 D2 H.out).mono ?_
          rintro x w3 ⟨v3, rfl, hv3, o3⟩
          obtain ⟨A3, c3, e3, _, _, _, r3, _, _⟩ := RdS.of_own hv3 (rws_one enc_one _)
          subst e3
          have AP3 := hid (H.out.apart hv3)
          replace H := hid (H.out.nil o3); replace Q := hid (Q.out.trans o3)
          replace V1 := hid (own_only_nil V1.out o3); replace R1 := hid (R1.out.only_nil o3)
          replace OB := hid (OB.out.only o3 (by simp))
          have R3 := hid r3; have V3 := hid hv3
          clear r3 hv3 o3
          have g0 := OB.out.cell 0; have g1 := OB.out.cell 1; have g2 := OB.out.cell 2; have g3 := OB.out.cell 3
          have hl64 := HL64.out
          go_wp2_with fail
          clear g0 g1 g2 g3 hl64
          refine (removeT w3 W0.heap.size W0.heap.size t2 D2 ⟨rn, rb, rv, rm⟩ H.out (Nat.le_of_lt H.out.ob.lt) hr).mono ?_
          rintro x w4 ⟨e4, D4, t4, rfl, a4, s4⟩
          replace Q := hid (s4.quiet H.out (Nat.le_refl _) Q.out HGL.out)
          have VV := s4.row V1.out AP1.out
          replace V1 := hid VV.1; replace AP1 := hid VV.2; clear VV
          obtain ⟨_, _, ev9, _, _, _, r9, _, _⟩ := RdS.of_own V1.out (rws_one enc_one _)
          injection ev9 with e91 e92 e93; subst e91
          replace R1 := hid r9; clear r9 e93
          have VV := s4.row V3.out AP3.out
          replace V3 := hid VV.1; replace AP3 := hid VV.2; clear VV
          obtain ⟨_, _, ev9, _, _, _, r9, _, _⟩ := RdS.of_own V3.out (rws_one enc_one _)
          injection ev9 with e91 e92 e93; subst e91
          replace R3 := hid r9; clear r9 e93
          replace OB := hid (OB.out.only s4.only (H.out.low (Nat.le_refl _) HLOW_OB.out))
          replace H := hid s4.tv; clear s4
          obtain ⟨he4, hD4⟩ := a4.uniq HS2.out HR2.out
          subst he4; subst hD4
          clear a4
          go_wp2_with fail
          refine (allT w4 W0.heap.size W0.heap.size t4 D4 H.out).mono ?_
          rintro x w5 ⟨v5, rfl, hv5, o5⟩
          obtain ⟨A5, c5, e5, _, _, _, r5, _, _⟩ := RdS.of_own hv5 (rws_one enc_one _)
          subst e5
          have AP5 := hid (H.out.apart hv5)
          replace H := hid (H.out.nil o5); replace Q := hid (Q.out.trans o5)
          replace V1 := hid (own_only_nil V1.out o5); replace R1 := hid (R1.out.only_nil o5)
          replace V3 := hid (own_only_nil V3.out o5); replace R3 := hid (R3.out.only_nil o5)
          replace OB := hid (OB.out.only o5 (by simp))
          have R5 := hid r5; have V5 := hid hv5
          clear r5 hv5 o5
          go_wp2_with fail
          refine (rows1 w5 A5 A1 _ c5 c1 D4 R5.out R1.out rfl (by have := H.out.len; omega)).mono ?_
          rintro x w6 ⟨rfl, o6⟩
          replace H := hid (H.out.nil o6); replace Q := hid (Q.out.trans o6)
          replace V1 := hid (own_only_nil V1.out o6); replace R1 := hid (R1.out.only_nil o6)
          replace V3 := hid (own_only_nil V3.out o6); replace R3 := hid (R3.out.only_nil o6)
          replace V5 := hid (own_only_nil V5.out o6); replace R5 := hid (R5.out.only_nil o6)
          replace OB := hid (OB.out.only o6 (by simp))
          clear o6
          have g0 := OB.out.cell 0; have g1 := OB.out.cell 1; have g2 := OB.out.cell 2; have g3 := OB.out.cell 3
          go_wp2_with fail
          clear g0 g1 g2 g3
          refine (removeT w6 W0.heap.size W0.heap.size t4 D4 ⟨rn, rb, rv, rm⟩ H.out (Nat.le_of_lt H.out.ob.lt) hr).mono ?_
          rintro x w7 ⟨e7, D7, t7, rfl, a7, s7⟩
          replace Q := hid (s7.quiet H.out (Nat.le_refl _) Q.out HGL.out)
          have VV := s7.row V1.out AP1.out
          replace V1 := hid VV.1; replace AP1 := hid VV.2; clear VV
          obtain ⟨_, _, ev9, _, _, _, r9, _, _⟩ := RdS.of_own V1.out (rws_one enc_one _)
          injection ev9 with e91 e92 e93; subst e91
          replace R1 := hid r9; clear r9 e93
          have VV := s7.row V3.out AP3.out
          replace V3 := hid VV.1; replace AP3 := hid VV.2; clear VV
          obtain ⟨_, _, ev9, _, _, _, r9, _, _⟩ := RdS.of_own V3.out (rws_one enc_one _)
          injection ev9 with e91 e92 e93; subst e91
          replace R3 := hid r9; clear r9 e93
          have VV := s7.row V5.out AP5.out
          replace V5 := hid VV.1; replace AP5 := hid VV.2; clear VV
          obtain ⟨_, _, ev9, _, _, _, r9, _, _⟩ := RdS.of_own V5.out (rws_one enc_one _)
          injection ev9 with e91 e92 e93; subst e91
          replace R5 := hid r9; clear r9 e93
          replace OB := hid (OB.out.only s7.only (H.out.low (Nat.le_refl _) HLOW_OB.out))
          replace H := hid s7.tv; clear s7
          obtain ⟨he7, hD7⟩ := a7.uniq HSD.out HR3.out
          subst he7; subst hD7
          clear a7
          go_wp2_with fail
          refine (known1 w7).mono ?_
          rintro x w8 ⟨rfl, o8⟩
          replace Q := hid (Q.out.trans o8); clear o8
          go_wp2_with fail
          go_ret
          exact ⟨rfl, Q.out⟩
        · obtain rfl : D2 = D := by
            rcases a2 with ⟨_, _, h⟩ | ⟨_, _, _, h⟩ | ⟨_, _, _, _, h⟩ | ⟨h1, _⟩
            · exact h
            · exact h
            · exact h
            · exact absurd h1 he
          clear a2
          have he2 : (e2 != 0) = true := by simpa using he
          go_wp2_with fail
          refine (allT w2 W0.heap.size W0.heap.size t2 D2 H.out).mono ?_
          rintro x w3 ⟨v3, rfl, hv3, o3⟩
          obtain ⟨A3, c3, e3, _, _, _, r3, _, _⟩ := RdS.of_own hv3 (rws_one enc_one _)
          subst e3
          have AP3 := hid (H.out.apart hv3)
          replace H := hid (H.out.nil o3); replace Q := hid (Q.out.trans o3)
          replace V1 := hid (own_only_nil V1.out o3); replace R1 := hid (R1.out.only_nil o3)
          replace OB := hid (OB.out.only o3 (by simp))
          have R3 := hid r3; have V3 := hid hv3
          clear r3 hv3 o3
          go_wp2_with fail
          refine (rows1 w3 A3 A1 _ c3 c1 D2 R3.out R1.out rfl (by have := H.out.len; omega)).mono ?_
          rintro x w4 ⟨rfl, o4⟩
          replace H := hid (H.out.nil o4); replace Q := hid (Q.out.trans o4)
          replace V1 := hid (own_only_nil V1.out o4); replace R1 := hid (R1.out.only_nil o4)
          replace V3 := hid (own_only_nil V3.out o4); replace R3 := hid (R3.out.only_nil o4)
          replace OB := hid (OB.out.only o4 (by simp))
          clear o4
          go_wp2_with fail
          refine (known1 w4).mono ?_
          rintro x w5 ⟨rfl, o5⟩
          replace Q := hid (Q.out.trans o5); clear o5
          go_wp2_with fail
          go_ret
          exact ⟨rfl, Q.out⟩
end Go.Proofs.Ytoidpakenocllaa.rou
