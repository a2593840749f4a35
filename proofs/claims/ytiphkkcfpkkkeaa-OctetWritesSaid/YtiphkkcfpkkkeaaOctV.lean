/-
  Chapter 1 (octet): the law on what a Writer writes, by a walk of its text. Conditions: none but those typed.
-/
import Derived.Test.YtiphkkcfpkkkeaaOctU
import Derived.Test.YtiphkkcfpkkkeaaSum1
namespace Go.Proofs.Ytiphkkcfpkkkeaa.oct
set_option linter.unusedVariables false
set_option linter.unusedSimpArgs false
open Go.ChangeShapes Go.WideShapes Go.ChangeAt Go.RowKit Go.IntWalk Go.Lib
set_option maxHeartbeats 4000000 in
theorem writes (w : World) (A : Option Addr) (len c : Nat) (K V : Nat → Int) (RA : Nat → Option Addr) (RN RC : Nat → Nat) (P : Nat → List Int) (h : Steps3 w A len K V RA RN RC P) (hlen : len ≤ 140737488351232) :
    Calls Try.prog 3 #[.slice A len c] w fun e w' => e = .returned (.bool true) ∧ Only [] w w' := by
  have H := hid h; clear h
  have HRl : Hid (∀ i, i < len → (P i).length = RN i) := hid (fun i hi => (H.out.rd i hi).1.len)
  go_enter Try.func3, Try.ntmps3
  go_wp2_with fail
  refine (heavy1 w A len c K V RA RN RC P H.out hlen).mono ?_
  rintro e w' ⟨t, rfl, ht, rfl⟩
  cases t with
  | true =>
    go_wp2
    go_ret
    exact ⟨rfl, Only.refl _ _⟩
  | false =>
    have HTot := hid (ht rfl); clear ht
    have W0 : Hid (wrt.Wr (w.alloc (.cells #[.slice none 0 0] 27)) w.heap.size w.heap.size (.slice none 0 0) (allW K V P 0)) := hid ⟨Ob.new _ _ _, Own.nil _ _ _ _, Nat.le_refl _⟩
    have Q0 : Hid (Only [] w (w.alloc (.cells #[.slice none 0 0] 27))) := hid ((Only.refl [] w).alloc _)
    go_wp2_with fail
    go_loopw [4] (fun i wr => ∃ (j : Nat) (v : Value), j ≤ len ∧ i = .int .i64 j ∧ Hid (wrt.Wr wr w.heap.size w.heap.size v (allW K V P j)) ∧ Hid (Only [] w wr)) (fun i _ => len - (intOf i).toNat)
    case atStart => exact ⟨0, _, by omega, rfl, W0, Q0⟩
    case round =>
      obtain ⟨j, v, hj, rfl, HV, HB⟩ := hrel
      by_cases hlt : j < len
      · obtain ⟨b, off, rfl, hb, hc⟩ := (H.out.only_nil HB.out).cells (by omega)
        obtain ⟨q0, q1, q2⟩ := hc j hlt
        have hr := (H.out.only_nil HB.out).rd j hlt
        have hlenj := allW_len K V P RN j (fun i hi => HRl.out i (by omega))
        have htj := tot_le (RN := RN) (show j + 1 ≤ len from hlt)
        have htt := HTot.out
        have HT : tot RN (j + 1) = tot RN j + 4 + RN j := rfl
        have hw1 : (allW K V P j).length ≤ 4000 := by omega
        have hrn : RN j ≤ 4000 := by omega
        have HW : Hid (∀ s, stepW (K j) (V j) (P j) = s → allW K V P (j + 1) = allW K V P j ++ s) := hid (fun s hs => by rw [← hs]; rfl)
        have HR := hid hr
        clear hc hr htj htt HT hlenj
        by_cases h1 : K j = 1
        · have hs1 : stepW (K j) (V j) (P j) = [V j % 256] := by simp [stepW, h1]
          rw [h1] at q0
          have HS := hid hs1; clear hs1 h1
          generalize V j = vj at *
          go_wp2_with fail
          refine (wrt.byte1 wr _ _ _ _ vj HV.out (by omega)).mono ?_
          rintro x w1 ⟨rfl, b1, v1, h1'⟩
          have W1 : Hid (wrt.Wr w1 w.heap.size w.heap.size v1 (allW K V P (j + 1))) := hid (by rw [HW.out _ HS.out]; exact h1')
          have B1 : Hid (Only [] w w1) := hid (only_below' HB.out b1 (Nat.le_refl _))
          clear h1' b1
          go_wp2
          go_roundw
          case rel => exact ⟨j + 1, v1, by omega, by go_num, W1, B1⟩
          case measure => simp [intOf]; omega
        · by_cases h2 : K j = 2
          · have hs1 : stepW (K j) (V j) (P j) = ref.two (V j) := by simp [stepW, h2]
            rw [h2] at q0
            have HS := hid hs1; clear hs1 h2
            generalize V j = vj at *
            go_wp2_with fail
            refine (wrt.two1 wr _ _ _ _ vj HV.out (by omega)).mono ?_
            rintro x w1 ⟨rfl, b1, v1, h1'⟩
            have W1 : Hid (wrt.Wr w1 w.heap.size w.heap.size v1 (allW K V P (j + 1))) := hid (by rw [HW.out _ HS.out]; exact h1')
            have B1 : Hid (Only [] w w1) := hid (only_below' HB.out b1 (Nat.le_refl _))
            clear h1' b1
            go_wp2
            go_roundw
            case rel => exact ⟨j + 1, v1, by omega, by go_num, W1, B1⟩
            case measure => simp [intOf]; omega
          · by_cases h4 : K j = 4
            · have hs1 : stepW (K j) (V j) (P j) = ref.four (V j % 4294967296) := by simp [stepW, h4]
              rw [h4] at q0
              have HS := hid hs1; clear hs1 h4
              generalize V j = vj at *
              go_wp2_with fail
              refine (wrt.four1 wr _ _ _ _ (vj % 4294967296) HV.out (by omega)).mono ?_
              rintro x w1 ⟨rfl, b1, v1, h1'⟩
              have W1 : Hid (wrt.Wr w1 w.heap.size w.heap.size v1 (allW K V P (j + 1))) := hid (by rw [HW.out _ HS.out]; exact h1')
              have B1 : Hid (Only [] w w1) := hid (only_below' HB.out b1 (Nat.le_refl _))
              clear h1' b1
              go_wp2
              go_roundw
              case rel => exact ⟨j + 1, v1, by omega, by go_num, W1, B1⟩
              case measure => simp [intOf]; omega
            · have hs1 : stepW (K j) (V j) (P j) = P j := by simp [stepW, h1, h2, h4]
              have d1 : (K j == 1) = false := by simpa using h1
              have d2 : (K j == 2) = false := by simpa using h2
              have d4 : (K j == 4) = false := by simpa using h4
              have HS := hid hs1; clear hs1 h1 h2 h4
              generalize K j = kj at *
              have OE : Hid (Own .u8 5 (wr.alloc (.cells #[] 5)) wr.heap.size (.slice (some ⟨wr.heap.size, 0, none⟩) 0 0) []) := hid (Own.lit .u8 5 wr wr.heap.size [] _ 0 rfl rfl (Nat.le_refl _) (by decide) (by simp))
              go_wp2_with (at_builtin; refine wpList_app _ rfl (.tmp 23) (.tmp 28) _ rfl hlp.elemB wr.heap.size _ [] rfl ?c1 (RA j) (RN j) (RC j) (P j) rfl ?c2 ?c3 ?c4 ?c5 ?c6 ?_)
              case c1 => exact OE.out
              case c2 => exact HR.out.1.alloc _
              case c3 => exact HR.out.2.1
              case c4 => simp; omega
              case c5 => unfold maxLen; simp; omega
              case c6 => simp
              intro vr w1 hvr hgr hbr
              have R1 : Hid (Own .u8 5 w1 wr.heap.size vr (P j)) := hid hvr
              have O1 : Hid (Only [] wr w1) := hid (((Only.refl [] wr).alloc _).of_grown hgr (by intro k hk; simp [Value.ownBlock] at hk; exact .inr (by omega)))
              have hs1 := O1.out.size
              clear hvr hgr hbr
              obtain ⟨Ar, cr, er, _, _, _, _⟩ := R1.out.slice
              have HPl := hid (HRl.out j hlt)
              rw [HPl.out] at er
              subst er
              have hcr : Ar = none → cr = 0 := by
                intro h
                rcases R1.out.1.2 with ⟨hv, _⟩ | ⟨g', cap', cur, hv, _⟩
                · injection hv
                · rw [h] at hv; cases hv
              have HCR := hid hcr; clear hcr
              have hglt : w.heap.size < wr.heap.size := HV.out.ob.lt
              have hvlt := HV.out.own.lt
              have HVLT := hid hvlt; clear hvlt
              have HV1 := hid (HV.out.only_nil O1.out)
              go_wp2_with fail
              refine (wrt.raw2 w1 w.heap.size w.heap.size _ (allW K V P j) Ar (RN j) cr (P j) HV1.out (by omega) (by have := R1.out.rd; exact this) HCR.out (by omega)).mono ?_
              rintro x w2 ⟨rfl, b2, v2, h2', hown2, honly2⟩
              have hrb : ∀ k, (Value.slice Ar (RN j) cr).ownBlock = some k → wr.heap.size ≤ k ∧ k < w1.heap.size := R1.out.lt
              have R2 : Hid (Own .u8 5 w2 wr.heap.size (.slice Ar (RN j) cr) (P j)) := hid (R1.out.only honly2 (by
                intro k hk hm
                have h3 := hrb k hk
                simp only [List.mem_cons, Option.mem_toList] at hm
                rcases hm with hm | hm
                · omega
                · have := HVLT.out k hm; omega))
              have W2 := hid h2'; have B2 := hid b2; have HOW := hid hown2; have HRB := hid hrb
              clear h2' b2 hown2 honly2 hrb
              have hs2 := B2.out.size
              go_wp2_with fail
              refine (hlp.spoilO w2 wr.heap.size _ (P j) R2.out (by omega) (by rw [HPl.out]; omega)).mono ?_
              rintro x w3 ⟨rfl, o3⟩
              have W3 : Hid (wrt.Wr w3 w.heap.size w.heap.size v2 (allW K V P (j + 1))) := hid (by
                rw [HW.out _ HS.out]
                refine W2.out.only o3 ?_ ?_
                · intro hm
                  have := HRB.out _ (by simpa using hm)
                  omega
                · intro k hk hm
                  have h3 := HRB.out k (by simpa using hm)
                  rcases HOW.out with h4 | h4
                  · rw [hk] at h4
                    have := HVLT.out k h4.symm
                    omega
                  · rw [hk] at h4
                    injection h4 with h4
                    omega)
              have B3 : Hid (Only [] w w3) := hid ((only_below' (HB.out.trans O1.out) B2.out (Nat.le_refl _)).fresh o3 (fun i hi => .inr (by have := HRB.out i (by simpa using hi); omega)))
              clear o3
              go_wp2
              go_roundw
              case rel => exact ⟨j + 1, v2, by omega, by go_num, W3, B3⟩
              case measure => simp [intOf]; omega
      · obtain rfl : j = len := by omega
        have hlenj := allW_len K V P RN j (fun i hi => HRl.out i (by omega))
        have HLen : Hid ((allW K V P j).length ≤ 4000) := hid (by have := HTot.out; omega)
        clear hlenj
        go_wp2_with fail
        refine (wrote1 wr A j c K V RA RN RC P (H.out.only_nil HB.out) hlen HTot.out).mono ?_
        rintro x w1 ⟨v1, rfl, hv1, o1⟩
        obtain ⟨A1, cap1, ev1, _, _, _, _⟩ := hv1.slice
        have W1 := hid (HV.out.only_nil o1); have V1 := hid hv1; have B1 := hid (HB.out.trans o1); clear hv1 o1
        subst ev1
        generalize allW K V P j = ls at *
        have hll := HLen.out
        go_wp2_with fail
        refine (wrt.bytes1 w1 _ _ _ ls W1.out (by omega)).mono ?_
        rintro x w2 ⟨v2, rfl, hv2, o2⟩
        obtain ⟨A2, cap2, ev2, _, _, _, _⟩ := hv2.slice
        have hW1lt := hid W1.out.ob.lt
        have hV1lt := hid V1.out.lt
        have hWvlt := hid W1.out.own.lt
        have W2 := hid (W1.out.only_nil o2); have V1 := hid (V1.out.only_nil o2); have B2 := hid (B1.out.trans o2); have V2 := hid hv2; have hs2 := o2.size; clear hv2 o2
        subst ev2
        go_wp2_with fail
        refine (hlp.same w2 A2 A1 ls.length ls.length cap2 cap1 ls ls V2.out.rd V1.out.rd (by omega) (by omega)).mono ?_
        rintro x w3 ⟨rfl, m3, rfl⟩
        rw [show decide (ls = ls) = true from by simp]
        go_wp2_with fail
        refine (hlp.spoil _ w1.heap.size _ ls (V2.out.drewN m3) (by simpa using hs2) (by omega)).mono ?_
        rintro x w4 ⟨rfl, b4⟩
        have hs4 := b4.size
        simp only [World.drewN] at hs4
        have W4 : Hid (wrt.Wr w4 w.heap.size w.heap.size _ ls) := hid ⟨Ob.below (W2.out.ob.drewN m3) b4 hW1lt.out, Own.below (W2.out.own.drewN m3) b4 (fun k hk => (hWvlt.out k hk).2), W2.out.low⟩
        have V1 := hid (Own.below (V1.out.drewN m3) b4 (fun k hk => (hV1lt.out k hk).2))
        have B4 := hid (only_below' (B2.out.drewN m3) b4 (by have := B1.out.size; omega))
        clear b4
        go_wp2_with fail
        refine (wrt.bytes1 w4 _ _ _ ls W4.out (by omega)).mono ?_
        rintro x w5 ⟨v5, rfl, hv5, o5⟩
        obtain ⟨A5, cap5, ev5, _, _, _, _⟩ := hv5.slice
        have V1 := hid (V1.out.only_nil o5); have B5 := hid (B4.out.trans o5); have V5 := hid hv5; clear hv5 o5
        subst ev5
        go_wp2_with fail
        refine (hlp.same w5 A5 A1 ls.length ls.length cap5 cap1 ls ls V5.out.rd V1.out.rd (by omega) (by omega)).mono ?_
        rintro x w6 ⟨rfl, m6, rfl⟩
        rw [show decide (ls = ls) = true from by simp]
        go_wp2_with fail
        refine (known _).mono ?_
        rintro x w7 ⟨rfl, o7⟩
        have Q7 := hid ((B5.out.drewN _).trans o7); clear o7
        go_wp2
        go_ret
        exact ⟨rfl, Q7.out⟩
end Go.Proofs.Ytiphkkcfpkkkeaa.oct
