/-
  Chapter 1 (octet): what a script writes, and the law on it, by a walk of each text. Conditions: none but those typed.
-/
import Derived.Test.YtiphkkcfpkkkeaaOpl
import Derived.Test.YtiphkkcfpkkkeaaWrt
import Derived.Test.YtiphkkcfpkkkeaaHlp1
import Derived.Test.YtiphkkcfpkkkeaaRef1
import Derived.Outline
namespace Go.Proofs.Ytiphkkcfpkkkeaa.oct
set_option linter.unusedVariables false
set_option linter.unusedSimpArgs false
open Go.ChangeShapes Go.WideShapes Go.ChangeAt Go.RowKit Go.IntWalk Go.Lib
/-- How much a script weighs. -/
def tot (RN : Nat → Nat) : Nat → Nat
  | 0 => 0
  | j + 1 => tot RN j + 4 + RN j
theorem tot_le {RN : Nat → Nat} {i j : Nat} (h : i ≤ j) : tot RN i ≤ tot RN j := by
  induction j with
  | zero =>
    obtain rfl : i = 0 := by omega
    exact Nat.le_refl _
  | succ j ih =>
    rcases Nat.lt_or_ge i (j + 1) with h1 | h1
    · have := ih (by omega); simp only [tot]; omega
    · obtain rfl : i = j + 1 := by omega
      exact Nat.le_refl _
/-- What heavy answers: if it says no, the script weighs little. -/
def HeavyEnd (RN : Nat → Nat) (len : Nat) (w : World) (e : Ending) (w' : World) : Prop := ∃ t : Bool, e = .returned (.bool t) ∧ (t = false → tot RN len ≤ 4000) ∧ w = w'
set_option maxHeartbeats 1000000 in
theorem heavy1 (w : World) (A : Option Addr) (len c : Nat) (K V : Nat → Int) (RA : Nat → Option Addr) (RN RC : Nat → Nat) (P : Nat → List Int) (h : Steps3 w A len K V RA RN RC P) (hlen : len ≤ 140737488351232) :
    Calls Try.prog 6 #[.slice A len c] w (HeavyEnd RN len w) := by
  have H := hid h; clear h
  go_enter Try.func6, Try.ntmps6
  go_wp2
  go_loop [3, 4] (fun n i => ∃ (j : Nat), j ≤ len ∧ i = .int .i64 j ∧ n = .int .i64 (tot RN j) ∧ tot RN j ≤ 140737488355356) (fun _ i => len - (intOf i).toNat)
  case atStart => exact ⟨0, by omega, rfl, rfl, by simp [tot]⟩
  case round =>
    obtain ⟨j, hj, rfl, rfl, ht⟩ := hrel
    by_cases hlt : j < len
    · by_cases h4 : tot RN j ≤ 4000
      · obtain ⟨b, off, rfl, hb, hc⟩ := H.out.cells (by omega)
        obtain ⟨_, _, q2⟩ := hc j hlt
        have hr := (H.out.rd j hlt).2.2.1
        have HT : Hid (tot RN (j + 1) = tot RN j + 4 + RN j) := hid rfl
        clear hc
        generalize RN j = rn at *
        generalize htj : tot RN j = tj at *
        have HTJ := hid htj; clear htj
        go_wp2
        go_round
        case rel => exact ⟨j + 1, by omega, by go_num, by rw [HT.out]; go_num, by rw [HT.out]; omega⟩
        case measure => simp [intOf]; omega
      · have h5 := tot_le (RN := RN) hj
        have HF : Hid (true = false → tot RN len ≤ 4000) := hid (by simp)
        generalize tot RN j = tj at *
        go_wp2
        go_ret
        exact ⟨true, rBool (by simp), HF.out, rfl⟩
    · obtain rfl : j = len := by omega
      have HF : Hid (∀ t : Bool, t = decide (4000 < (tot RN j : Int)) → t = false → tot RN j ≤ 4000) := hid (by intro t ht h0; subst ht; have h1 := of_decide_eq_false h0; omega)
      generalize hE : tot RN j = tj at *
      have HE := hid hE; clear hE
      go_wp2
      go_ret
      exact ⟨_, rfl, fun h => by rw [HE.out]; exact HF.out _ rfl h, rfl⟩
/-- What one step writes. -/
def stepW (k v : Int) (p : List Int) : List Int := if k = 1 then [v % 256] else if k = 2 then ref.two v else if k = 4 then ref.four (v % 4294967296) else p
/-- What the first j steps write. -/
def allW (K V : Nat → Int) (P : Nat → List Int) : Nat → List Int
  | 0 => []
  | j + 1 => allW K V P j ++ stepW (K j) (V j) (P j)
theorem stepW_len (k v : Int) (p : List Int) : (stepW k v p).length ≤ 4 + p.length := by
  unfold stepW; split
  · simp; omega
  · split
    · simp [ref.two]; omega
    · split
      · simp [ref.four]
      · omega
theorem allW_len (K V : Nat → Int) (P : Nat → List Int) (RN : Nat → Nat) : ∀ j, (∀ i, i < j → (P i).length = RN i) → (allW K V P j).length ≤ tot RN j
  | 0, _ => by simp [allW, tot]
  | j + 1, h => by
    have h1 := allW_len K V P RN j (fun i hi => h i (by omega))
    have h2 := stepW_len (K j) (V j) (P j)
    rw [h j (by omega)] at h2
    simp only [allW, tot, List.length_append]
    omega
set_option maxHeartbeats 4000000 in
theorem wrote1 (w : World) (A : Option Addr) (len c : Nat) (K V : Nat → Int) (RA : Nat → Option Addr) (RN RC : Nat → Nat) (P : Nat → List Int) (h : Steps3 w A len K V RA RN RC P) (hlen : len ≤ 140737488351232) (ht : tot RN len ≤ 4000) :
    Calls Try.prog 12 #[.slice A len c] w fun e w' => ∃ v, e = .returned v ∧ Own .u8 5 w' w.heap.size v (allW K V P len) ∧ Only [] w w' := by
  have H := hid h; clear h
  have HTot := hid ht; clear ht
  have HRl : Hid (∀ i, i < len → (P i).length = RN i) := hid (fun i hi => (H.out.rd i hi).1.len)
  go_enter Try.func12, Try.ntmps12
  go_wp2
  go_loopw [3, 4] (fun v i wr => ∃ (j : Nat), j ≤ len ∧ i = .int .i64 j ∧ Hid (Own .u8 5 wr w.heap.size v (allW K V P j)) ∧ Hid (Only [] w wr)) (fun _ i _ => len - (intOf i).toNat)
  case atStart => exact ⟨0, by omega, rfl, hid (Own.nil _ _ _ _), hid (Only.refl _ _)⟩
  case round =>
    obtain ⟨j, hj, rfl, HV, HB⟩ := hrel
    by_cases hlt : j < len
    · obtain ⟨b, off, rfl, hb, hc⟩ := (H.out.only_nil HB.out).cells (by omega)
      obtain ⟨q0, q1, q2⟩ := hc j hlt
      have hr := (H.out.only_nil HB.out).rd j hlt
      have hlenj := allW_len K V P RN j (fun i hi => HRl.out i (by omega))
      have htj := tot_le (RN := RN) (show j + 1 ≤ len from hlt)
      have htt := HTot.out
      have HT : tot RN (j + 1) = tot RN j + 4 + RN j := rfl
      have hw1 : (allW K V P j).length ≤ 4000 := by omega
      have hrn : RN j ≤ 4000 := by omega
      have HW : Hid (∀ s, stepW (K j) (V j) (P j) = s → allW K V P (j + 1) = allW K V P j ++ s) := hid (fun s hs => by rw [← hs]; rfl)
      have HR := hid hr
      clear hc hr htj htt HT hlenj
      by_cases h1 : K j = 1
      · have hs1 : stepW (K j) (V j) (P j) = [V j % 256] := by simp [stepW, h1]
        rw [h1] at q0
        have HS := hid hs1; clear hs1 h1
        have HWF : Hid (∀ z ∈ [V j % 256], (Lit.int .u8 z).wf = true) := hid (by intro z hz; simp at hz; apply hlp.u8wf; omega)
        generalize V j = vj at *
        have OL : Hid (Rd .u8 (wr.alloc (.cells #[.int .u8 (vj % 256)] 5)) (some ⟨wr.heap.size, 0, none⟩) 1 [vj % 256]) := hid (Own.lit .u8 5 wr w.heap.size [vj % 256] _ 1 rfl rfl HB.out.size (by simp [maxLen]) HWF.out).rd
        have HV := hid (HV.out.alloc (.cells #[.int .u8 (vj % 256)] 5)); have HB := hid (HB.out.alloc (.cells #[.int .u8 (vj % 256)] 5))
        go_wp2_with (at_builtin; refine wpList_app _ rfl (.tmp 25) (.tmp 32) _ rfl hlp.elemB w.heap.size _ (allW K V P j) rfl ?c1 (some ⟨wr.heap.size, 0, none⟩) 1 1 [vj % 256] rfl ?c2 ?c3 ?c4 ?c5 ?c6 ?_)
        case c1 => exact HV.out
        case c2 => exact OL.out
        case c3 => simp
        case c4 => first | omega | (simp [ref.two, ref.four]; omega)
        case c5 => unfold maxLen; first | omega | (simp [ref.two, ref.four]; omega)
        case c6 => have q9 := HB.out.size; first | omega | (simp; omega)
        intro v1 w1 hv hg hb1
        have V1 : Hid (Own .u8 5 w1 w.heap.size v1 (allW K V P (j + 1))) := hid (by rw [HW.out _ (HS.out)]; exact hv)
        have B1 : Hid (Only [] w w1) := hid (HB.out.own_grown HV.out hg (Nat.le_refl _))
        clear hv hg hb1
        go_wp2
        go_roundw
        case rel => exact ⟨j + 1, by omega, by go_num, V1, B1⟩
        case measure => simp [intOf]; omega
      · by_cases h2 : K j = 2
        · have hs1 : stepW (K j) (V j) (P j) = ref.two (V j) := by simp [stepW, h2]
          rw [h2] at q0
          have HS := hid hs1; clear hs1 h2
          generalize V j = vj at *
          go_wp2_with fail
          refine (ref.two1 _ vj).mono ?_
          rintro x w2 ⟨g2, rfl, hv2, o2⟩
          have R2 := hid hv2.rd; have HV := hid (HV.out.only_nil o2); have HB := hid (HB.out.trans o2); clear hv2 o2
          go_wp2_with (at_builtin; refine wpList_app _ rfl (.tmp 36) (.tmp 42) _ rfl hlp.elemB w.heap.size _ (allW K V P j) rfl ?c1 (some ⟨g2, 0, none⟩) 2 2 (ref.two vj) rfl ?c2 ?c3 ?c4 ?c5 ?c6 ?_)
          case c1 => exact HV.out
          case c2 => exact R2.out
          case c3 => simp
          case c4 => first | omega | (simp [ref.two, ref.four]; omega)
          case c5 => unfold maxLen; first | omega | (simp [ref.two, ref.four]; omega)
          case c6 => have q9 := HB.out.size; first | omega | (simp; omega)
          intro v1 w1 hv hg hb1
          have V1 : Hid (Own .u8 5 w1 w.heap.size v1 (allW K V P (j + 1))) := hid (by rw [HW.out _ (HS.out)]; exact hv)
          have B1 : Hid (Only [] w w1) := hid (HB.out.own_grown HV.out hg (Nat.le_refl _))
          clear hv hg hb1
          go_wp2
          go_roundw
          case rel => exact ⟨j + 1, by omega, by go_num, V1, B1⟩
          case measure => simp [intOf]; omega
        · by_cases h4 : K j = 4
          · have hs1 : stepW (K j) (V j) (P j) = ref.four (V j % 4294967296) := by simp [stepW, h4]
            rw [h4] at q0
            have HS := hid hs1; clear hs1 h4
            generalize V j = vj at *
            go_wp2_with fail
            refine (ref.four1 _ (vj % 4294967296)).mono ?_
            rintro x w2 ⟨g2, rfl, hv2, o2⟩
            have R2 := hid hv2.rd; have HV := hid (HV.out.only_nil o2); have HB := hid (HB.out.trans o2); clear hv2 o2
            go_wp2_with (at_builtin; refine wpList_app _ rfl (.tmp 46) (.tmp 53) _ rfl hlp.elemB w.heap.size _ (allW K V P j) rfl ?c1 (some ⟨g2, 0, none⟩) 4 4 (ref.four (vj % 4294967296)) rfl ?c2 ?c3 ?c4 ?c5 ?c6 ?_)
            case c1 => exact HV.out
            case c2 => exact R2.out
            case c3 => simp
            case c4 => first | omega | (simp [ref.two, ref.four]; omega)
            case c5 => unfold maxLen; first | omega | (simp [ref.two, ref.four]; omega)
            case c6 => have q9 := HB.out.size; first | omega | (simp; omega)
            intro v1 w1 hv hg hb1
            have V1 : Hid (Own .u8 5 w1 w.heap.size v1 (allW K V P (j + 1))) := hid (by rw [HW.out _ (HS.out)]; exact hv)
            have B1 : Hid (Only [] w w1) := hid (HB.out.own_grown HV.out hg (Nat.le_refl _))
            clear hv hg hb1
            go_wp2
            go_roundw
            case rel => exact ⟨j + 1, by omega, by go_num, V1, B1⟩
            case measure => simp [intOf]; omega
          · have hs1 : stepW (K j) (V j) (P j) = P j := by simp [stepW, h1, h2, h4]
            have d1 : (K j == 1) = false := by simpa using h1
            have d2 : (K j == 2) = false := by simpa using h2
            have d4 : (K j == 4) = false := by simpa using h4
            have HS := hid hs1; clear hs1 h1 h2 h4
            generalize K j = kj at *
            go_wp2_with (at_builtin; refine wpList_app _ rfl (.tmp 16) (.tmp 21) _ rfl hlp.elemB w.heap.size _ (allW K V P j) rfl ?c1 (RA j) (RN j) (RC j) (P j) rfl ?c2 ?c3 ?c4 ?c5 ?c6 ?_)
            case c1 => exact HV.out
            case c2 => exact HR.out.1
            case c3 => exact HR.out.2.1
            case c4 => first | omega | (simp [ref.two, ref.four]; omega)
            case c5 => unfold maxLen; first | omega | (simp [ref.two, ref.four]; omega)
            case c6 => have q9 := HB.out.size; first | omega | (simp; omega)
            intro v1 w1 hv hg hb1
            have V1 : Hid (Own .u8 5 w1 w.heap.size v1 (allW K V P (j + 1))) := hid (by rw [HW.out _ (HS.out)]; exact hv)
            have B1 : Hid (Only [] w w1) := hid (HB.out.own_grown HV.out hg (Nat.le_refl _))
            clear hv hg hb1
            go_wp2
            go_roundw
            case rel => exact ⟨j + 1, by omega, by go_num, V1, B1⟩
            case measure => simp [intOf]; omega
    · obtain rfl : j = len := by omega
      go_wp2
      go_ret
      exact ⟨_, rfl, HV.out, HB.out⟩
end Go.Proofs.Ytiphkkcfpkkkeaa.oct
