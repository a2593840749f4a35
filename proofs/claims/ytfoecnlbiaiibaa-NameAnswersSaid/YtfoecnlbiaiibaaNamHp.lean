/-
  Chapter 21 (name): the first error of the Data of answers, by a walk of its text. Conditions: none but those typed.
-/
import Derived.Test.YtfoecnlbiaiibaaNamHo
namespace Go.Proofs.Ytfoecnlbiaiibaa.nam
set_option linter.unusedVariables false
set_option linter.unusedSimpArgs false
open Go.ChangeShapes Go.WideShapes Go.ChangeAt Go.RowKit Go.IntWalk Go.Lib
theorem conv0 (w : World) (A : Option Addr) (c : Nat) : (Go.convert 22 9 (.slice A 0 c)).run Try.prog w = .ok (.string (strOfNums [])) w := by
  cases A with
  | none => first | rfl | go_simp
  | some x => first | rfl | go_simp
theorem convAny (w : World) (A : Option Addr) (n c : Nat) (l : List Int) (h : Rd .u8 w A n l) : (Go.convert 22 9 (.slice A n c)).run Try.prog w = .ok (.string (strOfNums l)) w := by
  rcases Nat.eq_zero_or_pos n with h0 | h0
  · subst h0
    obtain rfl : l = [] := List.eq_nil_of_length_eq_zero h.len
    exact conv0 w A c
  · obtain ⟨b, off, e, _⟩ := h.cells h0
    exact convRd w A n c l h (.inr ⟨b, off, e⟩)
/-- CNAMEs' Data are names; addresses are of four bytes; none is too long. -/
def cnOK (A : List Rc) : Prop := ∀ r ∈ A, r.ty = 5 → isNm (strOfNums r.d) = true
def frmOK (A : List Rc) : Prop := ∀ r ∈ A, r.ty = 1 → r.n = 4
def lngOK (A : List Rc) : Prop := ∀ r ∈ A, r.n ≤ 65535
/-- The first error of the Data. -/
def ErrsD (e : Int) (A : List Rc) : Prop := (e = 9 ∧ ¬ cnOK A) ∨ (e = 3 ∧ cnOK A ∧ ¬ frmOK A) ∨ (e = 5 ∧ cnOK A ∧ frmOK A ∧ ¬ lngOK A) ∨ (e = 0 ∧ cnOK A ∧ frmOK A ∧ lngOK A)
def CdE (A : List Rc) (w : World) (x : Ending) (w' : World) : Prop := ∃ e, x = .returned (.int .i64 e) ∧ ErrsD e A ∧ Only [] w w'
theorem all_next {p : Rc → Prop} {L : List Rc} {k : Nat} (hk : k < L.length) (h : ∀ r ∈ L.take k, p r) (h1 : p (L.getD k rc0)) : ∀ r ∈ L.take (k + 1), p r := by
  rw [rc_take L k hk]
  intro r hr
  rcases List.mem_append.1 hr with h2 | h2
  · exact h r h2
  · rw [show r = _ from by simpa using h2]; exact h1
theorem all_end {p : Rc → Prop} {L : List Rc} {k : Nat} (hk : ¬ k < L.length) (h : ∀ r ∈ L.take k, p r) : ∀ r ∈ L, p r := by
  rw [List.take_of_length_le (by omega)] at h; exact h
set_option maxRecDepth 100000 in
set_option maxHeartbeats 4000000 in
theorem checkDataL (w : World) (A : Option Addr) (n c : Nat) (L : List Rc) (e : L.length = n) (r : RowR w A L) (d : DatR w L) (hn : n ≤ 100000) :
    Calls Try.prog 48 #[.slice A n c] w (CdE L w) := by
  have E := hid e; have R := hid r; have D := hid d
  clear e r d
  go_enter Try.func48, Try.ntmps48
  go_wp2_with fail
  go_loopw [13] (fun v wr => ∃ k : Nat, v = .int .i64 k ∧ k ≤ n ∧ Hid (Only [] w wr) ∧ Hid (∀ r ∈ L.take k, r.ty = 5 → isNm (strOfNums r.d) = true)) (fun v _ => n - (RowKit.intOf v).toNat)
  case atStart => exact ⟨0, rfl, by omega, hid (Only.refl [] w), hid (by simp)⟩
  case round =>
    obtain ⟨k, rfl, hk, HB, HT⟩ := hrel
    by_cases hlt : k < n
    · have HK : Hid (k < L.length) := hid (by rw [E.out]; exact hlt)
      have HNX := hid (fun h1 => all_next HK.out HT.out h1)
      have HBad : Hid (¬ ((L.getD k rc0).ty = 5 → isNm (strOfNums (L.getD k rc0).d) = true) → ¬ cnOK L) := hid (fun h1 h2 => h1 (h2 _ (rc_mem L k HK.out)))
      obtain ⟨b, off, rfl, hb, d0, d1, d2, d3, d4⟩ := (R.out.only_nil HB.out).at k HK.out
      have HD := hid (D.out _ (rc_mem L k HK.out))
      generalize L.getD k rc0 = r at *
      obtain ⟨s, ty, cl, ttl, rA, rn, rc, rd⟩ := r
      simp only at d0 d1 d2 d3 d4
      obtain ⟨WA, hWA⟩ : ∃ WA, wr.alloc (.cells #[.string s, .int .i64 ty, .int .i64 cl, .int .i64 ttl, .slice rA rn rc] 46) = WA := ⟨_, rfl⟩
      have HBA : Hid (Only [] w WA) := hid (by rw [← hWA]; exact HB.out.alloc _)
      have OA : Hid (Ob WA wr.heap.size 46 #[.string s, .int .i64 ty, .int .i64 cl, .int .i64 ttl, .slice rA rn rc]) := hid (by rw [← hWA]; exact Ob.new _ _ _)
      have m1 := OA.out.cell 1
      have m4 := OA.out.cell 4
      by_cases h5 : ty = 5
      · subst h5
        have hcv := convAny WA rA rn rc rd (HD.out.1.1.only_nil HBA.out)
        have HSz : Hid ((strOfNums rd).size ≤ maxLen) := hid (by have q1 : rd.length = rn := HD.out.1.1.len; have q2 : rn ≤ 140737488351232 := HD.out.1.2.2.1; rw [strOf_size, q1]; unfold maxLen; omega)
        go_wp2_with fail
        refine (packL WA (strOfNums rd) HSz.out).mono ?_
        rintro x w4 ⟨v4, rfl, hv4, o4⟩
        have Q4 := hid (HBA.out.trans o4)
        clear hv4 o4
        rw [packs_isNm]
        by_cases hnm : isNm (strOfNums rd) = true
        · rw [if_pos hnm]
          go_wp2_with fail
          go_roundw
          case rel => exact ⟨k + 1, by go_num, by omega, Q4, hid (HNX.out (fun _ => hnm))⟩
          case measure => simp [RowKit.intOf]; omega
        · rw [if_neg hnm]
          go_wp2_with fail
          go_ret
          exact ⟨9, rfl, .inl ⟨rfl, HBad.out (fun h9 => hnm (h9 (by first | trivial | rfl | simp)))⟩, Q4.out⟩
      · have h5b : (ty == 5) = false := by simpa using h5
        go_wp2_with fail
        go_roundw
        case rel => exact ⟨k + 1, by go_num, by omega, HBA, hid (HNX.out (fun h9 => absurd h9 h5))⟩
        case measure => simp [RowKit.intOf]; omega
    · have HC : Hid (cnOK L) := hid (all_end (by rw [E.out]; exact hlt) HT.out)
      obtain ⟨wz, hwz⟩ : ∃ wz, wz = wr := ⟨_, rfl⟩
      subst hwz
      have HBz := HB
      clear HB HT
      go_wp2_with fail
      clear hlt hk
      go_loopw [33] (fun v wr => ∃ k : Nat, v = .int .i64 k ∧ k ≤ n ∧ Hid (Only [] w wr) ∧ Hid (∀ r ∈ L.take k, r.ty = 1 → r.n = 4)) (fun v _ => n - (RowKit.intOf v).toNat)
      case atStart => exact ⟨0, rfl, by omega, HBz, hid (by simp)⟩
      case round =>
        clear HBz
        obtain ⟨k, rfl, hk, HB, HT⟩ := hrel
        by_cases hlt : k < n
        · have HK : Hid (k < L.length) := hid (by rw [E.out]; exact hlt)
          have HNX := hid (fun h1 => all_next HK.out HT.out h1)
          have HBad : Hid (¬ ((L.getD k rc0).ty = 1 → (L.getD k rc0).n = 4) → ¬ frmOK L) := hid (fun h1 h2 => h1 (h2 _ (rc_mem L k HK.out)))
          obtain ⟨b, off, rfl, hb, d0, d1, d2, d3, d4⟩ := (R.out.only_nil HB.out).at k HK.out
          generalize L.getD k rc0 = r at *
          obtain ⟨s, ty, cl, ttl, rA, rn, rc, rd⟩ := r
          simp only at d0 d1 d2 d3 d4
          obtain ⟨WA, hWA⟩ : ∃ WA, wr.alloc (.cells #[.string s, .int .i64 ty, .int .i64 cl, .int .i64 ttl, .slice rA rn rc] 46) = WA := ⟨_, rfl⟩
          have HBA : Hid (Only [] w WA) := hid (by rw [← hWA]; exact HB.out.alloc _)
          have OA : Hid (Ob WA wr.heap.size 46 #[.string s, .int .i64 ty, .int .i64 cl, .int .i64 ttl, .slice rA rn rc]) := hid (by rw [← hWA]; exact Ob.new _ _ _)
          have m1 := OA.out.cell 1
          have m4 := OA.out.cell 4
          by_cases h5 : ty = 1
          · subst h5
            by_cases h6 : rn = 4
            · subst h6
              go_wp2_with fail
              go_roundw
              case rel => exact ⟨k + 1, by go_num, by omega, HBA, hid (HNX.out (fun _ => rfl))⟩
              case measure => simp [RowKit.intOf]; omega
            · have h6b : ((rn : Int) == 4) = false := by simp; omega
              have h6c : ¬ (rn : Int) = 4 := by omega
              go_wp2_with fail
              go_ret
              exact ⟨3, rfl, .inr (.inl ⟨rfl, HC.out, HBad.out (fun h9 => h6 (h9 (by first | trivial | rfl | simp)))⟩), HBA.out⟩
          · have h5b : (ty == 1) = false := by simpa using h5
            go_wp2_with fail
            go_roundw
            case rel => exact ⟨k + 1, by go_num, by omega, HBA, hid (HNX.out (fun h9 => absurd h9 h5))⟩
            case measure => simp [RowKit.intOf]; omega
        · have HF : Hid (frmOK L) := hid (all_end (by rw [E.out]; exact hlt) HT.out)
          obtain ⟨wy, hwy⟩ : ∃ wy, wy = wr := ⟨_, rfl⟩
          subst hwy
          have HBy := HB
          clear HB HT
          go_wp2_with fail
          clear hlt hk
          go_loopw [49] (fun v wr => ∃ k : Nat, v = .int .i64 k ∧ k ≤ n ∧ Hid (Only [] w wr) ∧ Hid (∀ r ∈ L.take k, r.n ≤ 65535)) (fun v _ => n - (RowKit.intOf v).toNat)
          case atStart => exact ⟨0, rfl, by omega, HBy, hid (by simp)⟩
          case round =>
            clear HBy
            obtain ⟨k, rfl, hk, HB, HT⟩ := hrel
            by_cases hlt : k < n
            · have HK : Hid (k < L.length) := hid (by rw [E.out]; exact hlt)
              have HNX := hid (fun h1 => all_next HK.out HT.out h1)
              have HBad : Hid (¬ ((L.getD k rc0).n ≤ 65535) → ¬ lngOK L) := hid (fun h1 h2 => h1 (h2 _ (rc_mem L k HK.out)))
              obtain ⟨b, off, rfl, hb, d0, d1, d2, d3, d4⟩ := (R.out.only_nil HB.out).at k HK.out
              generalize L.getD k rc0 = r at *
              obtain ⟨s, ty, cl, ttl, rA, rn, rc, rd⟩ := r
              simp only at d0 d1 d2 d3 d4
              obtain ⟨WA, hWA⟩ : ∃ WA, wr.alloc (.cells #[.string s, .int .i64 ty, .int .i64 cl, .int .i64 ttl, .slice rA rn rc] 46) = WA := ⟨_, rfl⟩
              have HBA : Hid (Only [] w WA) := hid (by rw [← hWA]; exact HB.out.alloc _)
              have OA : Hid (Ob WA wr.heap.size 46 #[.string s, .int .i64 ty, .int .i64 cl, .int .i64 ttl, .slice rA rn rc]) := hid (by rw [← hWA]; exact Ob.new _ _ _)
              have m4 := OA.out.cell 4
              by_cases h6 : rn ≤ 65535
              · have h6c : ¬ (65535 : Int) < (rn : Int) := by omega
                go_wp2_with fail
                go_roundw
                case rel => exact ⟨k + 1, by go_num, by omega, HBA, hid (HNX.out h6)⟩
                case measure => simp [RowKit.intOf]; omega
              · have h6c : (65535 : Int) < (rn : Int) := by omega
                go_wp2_with fail
                go_ret
                exact ⟨5, rfl, .inr (.inr (.inl ⟨rfl, HC.out, HF.out, HBad.out h6⟩)), HBA.out⟩
            · have HG : Hid (lngOK L) := hid (all_end (by rw [E.out]; exact hlt) HT.out)
              go_wp2_with fail
              go_ret
              exact ⟨0, rfl, .inr (.inr (.inr ⟨rfl, HC.out, HF.out, HG.out⟩)), HB.out⟩
end Go.Proofs.Ytfoecnlbiaiibaa.nam
