/-
  Chapter 21 (name): Encode of the document, by a walk of its text. Conditions: none but those typed.
-/
import Derived.Test.YtfoecnlbiaiibaaNamHs
namespace Go.Proofs.Ytfoecnlbiaiibaa.nam
set_option linter.unusedVariables false
set_option linter.unusedSimpArgs false
open Go.ChangeShapes Go.WideShapes Go.ChangeAt Go.RowKit Go.IntWalk Go.Lib
/-- Data at A, apart from the row v. -/
def DR (w : World) (v : Value) (A : Option Addr) (n : Nat) (d : List Int) : Prop := Rd .u8 w A n d ∧ (0 < n → ∀ b off, A = some ⟨b, off, none⟩ → v.ownBlock ≠ some b)
theorem DR.only_nil {w w' : World} {v : Value} {A : Option Addr} {n : Nat} {d : List Int} (h : DR w v A n d) (o : Only [] w w') : DR w' v A n d := ⟨h.1.only_nil o, h.2⟩
theorem DR.grown {w w' : World} {v v' : Value} {A : Option Addr} {n : Nat} {d : List Int} (h : DR w v A n d) (hg : w.grownBy w' v.ownBlock) (hb : v'.ownBlock = v.ownBlock ∨ v'.ownBlock = some w.heap.size) : DR w' v' A n d := by
  rcases Nat.eq_zero_or_pos n with h0 | h0
  · subst h0
    obtain rfl : d = [] := List.eq_nil_of_length_eq_zero h.1.len
    exact ⟨Rd.nil _ _ _, fun h => absurd h (by omega)⟩
  · refine ⟨h.1.grown hg (fun b off e _ e2 => h.2 h0 b off e e2), fun _ b off e => ?_⟩
    rcases hb with h1 | h1
    · rw [h1]; exact h.2 h0 b off e
    · rw [h1]
      obtain ⟨b', off', e', hlt, _⟩ := h.1.at_ h0
      rw [e] at e'
      injection e' with e'; injection e' with e1 e2
      subst e1
      intro e3
      have : w.heap.size = b := by simpa using e3
      omega
theorem DR.of_old {w0 w : World} {v : Value} {A : Option Addr} {n : Nat} {d l : List Int} {t : TypeId} (h : Rd .u8 w0 A n d) (o : Only [] w0 w) (hv : Own .u8 t w w0.heap.size v l) : DR w v A n d :=
  ⟨h.only_nil o, fun h0 b off e e2 => by
    obtain ⟨b', off', e', hlt, _⟩ := h.at_ h0
    rw [e] at e'
    injection e' with e'; injection e' with e1 _
    subst e1
    have := (hv.lt b e2).1
    omega⟩
theorem DR.of_new {w : World} {base : Nat} {v : Value} {A : Option Addr} {n c : Nat} {d : List Int} {t : TypeId} (h : Rd .u8 w A n d) (ho : Own .u8 t w base (.slice A n c) d) (hv : ∀ i, v.ownBlock = some i → i < base) : DR w v A n d :=
  ⟨h, fun h0 b off e e2 => by
    have h1 := hv b e2
    have h2 := (ho.lt b (by rw [e]; rfl)).1
    omega⟩
set_option maxRecDepth 100000 in
set_option maxHeartbeats 16000000 in
theorem encodeD (w : World) (id fl : Int) (A1 A2 : Option Addr) (n1 n2 c1 c2 : Nat) (L1 L2 : List Rc) (e1 : L1.length = n1) (e2 : L2.length = n2) (r1 : RowR w A1 L1) (r2 : RowR w A2 L2) (d1 : DatR w L1) (d2 : DatR w L2) (h12 : n1 + n2 ≤ 3000) :
    Calls Try.prog 18 #[.agg #[.int .i64 id, .int .i64 fl, .slice A1 n1 c1, .slice A2 n2 c2]] w (EncE id fl L1 L2 w) := by
  have E1 := hid e1; have E2 := hid e2
  obtain ⟨W0, hW0⟩ : ∃ W0, w.alloc (.cells #[.int .i64 id, .int .i64 fl, .slice A1 n1 c1, .slice A2 n2 c2] 39) = W0 := ⟨_, rfl⟩
  have C0 : Hid (Ob W0 w.heap.size 39 #[.int .i64 id, .int .i64 fl, .slice A1 n1 c1, .slice A2 n2 c2]) := hid (by rw [← hW0]; exact Ob.new _ _ _)
  have Q0 : Hid (Only [] w W0) := hid (by rw [← hW0]; exact (Only.refl [] w).alloc _)
  have R1 := hid (r1.only_nil Q0.out); have R2 := hid (r2.only_nil Q0.out); have D1 := hid (d1.only_nil Q0.out); have D2 := hid (d2.only_nil Q0.out)
  have k0 := C0.out.cell 0
  have k1 := C0.out.cell 1
  have k2 := C0.out.cell 2
  have k3 := C0.out.cell 3
  clear e1 e2 r1 r2 d1 d2
  go_enter Try.func18, Try.ntmps18
  by_cases a1 : id < 0
  case pos =>
    go_wp2_with fail
    go_ret2
    exact ⟨_, 1, rfl, .inl ⟨rfl, fun h => by have := h.1.1; omega⟩, by rw [if_neg (by decide)]; exact Own.nil _ _ _ _, Q0.out⟩
  by_cases a2 : 65535 < id
  case pos =>
    go_wp2_with fail
    go_ret2
    exact ⟨_, 1, rfl, .inl ⟨rfl, fun h => by have := h.1.2; omega⟩, by rw [if_neg (by decide)]; exact Own.nil _ _ _ _, Q0.out⟩
  by_cases a3 : fl < 0
  case pos =>
    go_wp2_with fail
    go_ret2
    exact ⟨_, 1, rfl, .inl ⟨rfl, fun h => by have := h.2.1.1; omega⟩, by rw [if_neg (by decide)]; exact Own.nil _ _ _ _, Q0.out⟩
  by_cases a4 : 65535 < fl
  case pos =>
    go_wp2_with fail
    go_ret2
    exact ⟨_, 1, rfl, .inl ⟨rfl, fun h => by have := h.2.1.2; omega⟩, by rw [if_neg (by decide)]; exact Own.nil _ _ _ _, Q0.out⟩
  by_cases a5 : n1 ≤ 64
  case neg =>
    have a5b : (64 : Int) < (n1 : Int) := by omega
    go_wp2_with fail
    go_ret2
    exact ⟨_, 1, rfl, .inl ⟨rfl, fun h => by have := h.2.2.1; rw [E1.out] at this; omega⟩, by rw [if_neg (by decide)]; exact Own.nil _ _ _ _, Q0.out⟩
  have a5b : ¬ (64 : Int) < (n1 : Int) := by omega
  by_cases a6 : n2 ≤ 64
  case neg =>
    have a6b : (64 : Int) < (n2 : Int) := by omega
    go_wp2_with fail
    go_ret2
    exact ⟨_, 1, rfl, .inl ⟨rfl, fun h => by have := h.2.2.2.1; rw [E2.out] at this; omega⟩, by rw [if_neg (by decide)]; exact Own.nil _ _ _ _, Q0.out⟩
  have a6b : ¬ (64 : Int) < (n2 : Int) := by omega
  have HID : Hid (0 ≤ id ∧ id ≤ 65535) := hid (by omega)
  have HFL : Hid (0 ≤ fl ∧ fl ≤ 65535) := hid (by omega)
  go_wp2_with fail
  clear k0 k1 k2 k3 a1 a2 a3 a4 a5b a6b hW0
  go_loopw [4] (fun v wr => ∃ k : Nat, v = .int .i64 k ∧ k ≤ n1 ∧ Hid (Only [] W0 wr) ∧ Hid (∀ r ∈ L1.take k, inB r.ty r.cl r.ttl true)) (fun v _ => n1 - (RowKit.intOf v).toNat)
  case atStart => exact ⟨0, rfl, by omega, hid (Only.refl [] W0), hid (by simp)⟩
  case round =>
    obtain ⟨k, rfl, hk, HB, HT⟩ := hrel
    have g2 : wr.cell? ⟨w.heap.size, 2, none⟩ = some (.slice A1 n1 c1) := (C0.out.only HB.out (by simp)).cell 2
    have g3 : wr.cell? ⟨w.heap.size, 3, none⟩ = some (.slice A2 n2 c2) := (C0.out.only HB.out (by simp)).cell 3
    by_cases hlt : k < n1
    · have HK : Hid (k < L1.length) := hid (by rw [E1.out]; exact hlt)
      have HNX := hid (fun h1 => all_next HK.out HT.out h1)
      have HBad : Hid (¬ inB (L1.getD k rc0).ty (L1.getD k rc0).cl (L1.getD k rc0).ttl true → ¬ (∀ r ∈ L1, inB r.ty r.cl r.ttl true)) := hid (fun h1 h2 => h1 (h2 _ (rc_mem _ k HK.out)))
      have HD0 := hid (D1.out _ (rc_mem _ k HK.out))
      obtain ⟨b, off, rfl, hb, d0, d1, d2, d3, d4⟩ := (R1.out.only_nil HB.out).at k HK.out
      generalize L1.getD k rc0 = r at *
      obtain ⟨s, ty, cl, ttl, rA, rn, rc, rd⟩ := r
      simp only at d0 d1 d2 d3 d4
      have HSz : Hid (s.size ≤ maxLen) := hid (by have q : s.size ≤ 140737488351232 := HD0.out.2; unfold maxLen; omega)
      go_wp2_with fail
      refine (badD wr s ty cl ttl rA rn rc true).mono ?_
      rintro x w4 ⟨rfl, o4⟩
      have HB4 := hid (HB.out.trans o4)
      clear o4
      by_cases hi : inB ty cl ttl true
      · rw [if_pos hi]
        have HI := hid hi; clear hi
        go_wp2_with fail
        go_roundw
        case rel => exact ⟨k + 1, by first | rfl | go_num, by omega, HB4, hid (HNX.out HI.out)⟩
        case measure => simp [RowKit.intOf]; omega
      · rw [if_neg hi]
        have HI := hid hi; clear hi
        go_wp2_with fail
        go_ret2
        exact ⟨_, 1, rfl, .inl ⟨rfl, fun h => HBad.out HI.out h.2.2.2.2.1⟩, by rw [if_neg (by decide)]; exact Own.nil _ _ _ _, Q0.out.trans HB4.out⟩
    · have HAll1true : Hid (∀ r ∈ L1, inB r.ty r.cl r.ttl true) := hid (all_end (by rw [E1.out]; exact hlt) HT.out)
      obtain ⟨wz1true, hwz⟩ : ∃ wz, wz = wr := ⟨_, rfl⟩
      subst hwz
      have HZ1true := HB
      clear HB HT
      go_wp2_with fail
      clear hlt hk g2 g3
      go_loopw [5] (fun v wr => ∃ k : Nat, v = .int .i64 k ∧ k ≤ n2 ∧ Hid (Only [] W0 wr) ∧ Hid (∀ r ∈ L2.take k, inB r.ty r.cl r.ttl false)) (fun v _ => n2 - (RowKit.intOf v).toNat)
      case atStart => exact ⟨0, rfl, by omega, HZ1true, hid (by simp)⟩
      case round =>
        obtain ⟨k, rfl, hk, HB, HT⟩ := hrel
        have g2 : wr.cell? ⟨w.heap.size, 2, none⟩ = some (.slice A1 n1 c1) := (C0.out.only HB.out (by simp)).cell 2
        have g3 : wr.cell? ⟨w.heap.size, 3, none⟩ = some (.slice A2 n2 c2) := (C0.out.only HB.out (by simp)).cell 3
        by_cases hlt : k < n2
        · have HK : Hid (k < L2.length) := hid (by rw [E2.out]; exact hlt)
          have HNX := hid (fun h1 => all_next HK.out HT.out h1)
          have HBad : Hid (¬ inB (L2.getD k rc0).ty (L2.getD k rc0).cl (L2.getD k rc0).ttl false → ¬ (∀ r ∈ L2, inB r.ty r.cl r.ttl false)) := hid (fun h1 h2 => h1 (h2 _ (rc_mem _ k HK.out)))
          have HD0 := hid (D2.out _ (rc_mem _ k HK.out))
          obtain ⟨b, off, rfl, hb, d0, d1, d2, d3, d4⟩ := (R2.out.only_nil HB.out).at k HK.out
          generalize L2.getD k rc0 = r at *
          obtain ⟨s, ty, cl, ttl, rA, rn, rc, rd⟩ := r
          simp only at d0 d1 d2 d3 d4
          have HSz : Hid (s.size ≤ maxLen) := hid (by have q : s.size ≤ 140737488351232 := HD0.out.2; unfold maxLen; omega)
          go_wp2_with fail
          refine (badD wr s ty cl ttl rA rn rc false).mono ?_
          rintro x w4 ⟨rfl, o4⟩
          have HB4 := hid (HB.out.trans o4)
          clear o4
          by_cases hi : inB ty cl ttl false
          · rw [if_pos hi]
            have HI := hid hi; clear hi
            go_wp2_with fail
            go_roundw
            case rel => exact ⟨k + 1, by first | rfl | go_num, by omega, HB4, hid (HNX.out HI.out)⟩
            case measure => simp [RowKit.intOf]; omega
          · rw [if_neg hi]
            have HI := hid hi; clear hi
            go_wp2_with fail
            go_ret2
            exact ⟨_, 1, rfl, .inl ⟨rfl, fun h => HBad.out HI.out h.2.2.2.2.2⟩, by rw [if_neg (by decide)]; exact Own.nil _ _ _ _, Q0.out.trans HB4.out⟩
        · have HAll2false : Hid (∀ r ∈ L2, inB r.ty r.cl r.ttl false) := hid (all_end (by rw [E2.out]; exact hlt) HT.out)
          obtain ⟨wz2false, hwz⟩ : ∃ wz, wz = wr := ⟨_, rfl⟩
          subst hwz
          have HZ2false := HB
          clear HB HT
          go_wp2_with fail
          clear hlt hk g2 g3
          have HAG : Hid (argOK id fl L1 L2) := hid ⟨HID.out, HFL.out, by rw [E1.out]; exact a5, by rw [E2.out]; exact a6, HAll1true.out, HAll2false.out⟩
          go_loopw [6] (fun v wr => ∃ k : Nat, v = .int .i64 k ∧ k ≤ n1 ∧ Hid (Only [] W0 wr) ∧ Hid (∀ r ∈ L1.take k, isNm r.s = true)) (fun v _ => n1 - (RowKit.intOf v).toNat)
          case atStart => exact ⟨0, rfl, by omega, HZ2false, hid (by simp)⟩
          case round =>
            obtain ⟨k, rfl, hk, HB, HT⟩ := hrel
            have g2 : wr.cell? ⟨w.heap.size, 2, none⟩ = some (.slice A1 n1 c1) := (C0.out.only HB.out (by simp)).cell 2
            have g3 : wr.cell? ⟨w.heap.size, 3, none⟩ = some (.slice A2 n2 c2) := (C0.out.only HB.out (by simp)).cell 3
            by_cases hlt : k < n1
            · have HK : Hid (k < L1.length) := hid (by rw [E1.out]; exact hlt)
              have HNX := hid (fun h1 => all_next HK.out HT.out h1)
              have HBad : Hid (¬ isNm (L1.getD k rc0).s = true → ¬ (∀ r ∈ L1, isNm r.s = true)) := hid (fun h1 h2 => h1 (h2 _ (rc_mem _ k HK.out)))
              have HD0 := hid (D1.out _ (rc_mem _ k HK.out))
              obtain ⟨b, off, rfl, hb, d0, d1, d2, d3, d4⟩ := (R1.out.only_nil HB.out).at k HK.out
              generalize L1.getD k rc0 = r at *
              obtain ⟨s, ty, cl, ttl, rA, rn, rc, rd⟩ := r
              simp only at d0 d1 d2 d3 d4
              have HSz : Hid (s.size ≤ maxLen) := hid (by have q : s.size ≤ 140737488351232 := HD0.out.2; unfold maxLen; omega)
              go_wp2_with fail
              refine (isName1 wr s HSz.out).mono ?_
              rintro x w4 ⟨rfl, o4⟩
              have HB4 := hid (HB.out.trans o4)
              clear o4
              by_cases hi : isNm s = true
              · have HI := hid hi
                rw [hi]
                clear hi
                go_wp2_with fail
                go_roundw
                case rel => exact ⟨k + 1, by first | rfl | go_num, by omega, HB4, hid (HNX.out HI.out)⟩
                case measure => simp [RowKit.intOf]; omega
              · have HI := hid hi
                rw [Bool.eq_false_iff.2 hi]
                clear hi
                go_wp2_with fail
                go_ret2
                exact ⟨_, 9, rfl, .inr (.inl ⟨rfl, HAG.out, fun h => HBad.out HI.out h.1.1⟩), by rw [if_neg (by decide)]; exact Own.nil _ _ _ _, Q0.out.trans HB4.out⟩
            · have HN1 : Hid (∀ r ∈ L1, isNm r.s = true) := hid (all_end (by rw [E1.out]; exact hlt) HT.out)
              obtain ⟨wzn, hwz⟩ : ∃ wz, wz = wr := ⟨_, rfl⟩
              subst hwz
              have HZn := HB
              clear HB HT
              go_wp2_with fail
              clear hlt hk g2 g3
              go_loopw [7] (fun v wr => ∃ k : Nat, v = .int .i64 k ∧ k ≤ n2 ∧ Hid (Only [] W0 wr) ∧ Hid (∀ r ∈ L2.take k, isNm r.s = true ∧ (r.ty = 5 → isNm (strOfNums r.d) = true))) (fun v _ => n2 - (RowKit.intOf v).toNat)
              case atStart => exact ⟨0, rfl, by omega, HZn, hid (by simp)⟩
              case round =>
                obtain ⟨k, rfl, hk, HB, HT⟩ := hrel
                have g2 : wr.cell? ⟨w.heap.size, 2, none⟩ = some (.slice A1 n1 c1) := (C0.out.only HB.out (by simp)).cell 2
                have g3 : wr.cell? ⟨w.heap.size, 3, none⟩ = some (.slice A2 n2 c2) := (C0.out.only HB.out (by simp)).cell 3
                by_cases hlt : k < n2
                · have HK : Hid (k < L2.length) := hid (by rw [E2.out]; exact hlt)
                  have HNX := hid (fun h1 => all_next HK.out HT.out h1)
                  have HBad : Hid (¬ (isNm (L2.getD k rc0).s = true ∧ ((L2.getD k rc0).ty = 5 → isNm (strOfNums (L2.getD k rc0).d) = true)) → ¬ (∀ r ∈ L2, isNm r.s = true ∧ (r.ty = 5 → isNm (strOfNums r.d) = true))) := hid (fun h1 h2 => h1 (h2 _ (rc_mem _ k HK.out)))
                  have HD0 := hid (D2.out _ (rc_mem _ k HK.out))
                  obtain ⟨b, off, rfl, hb, d0, d1, d2, d3, d4⟩ := (R2.out.only_nil HB.out).at k HK.out
                  generalize L2.getD k rc0 = r at *
                  obtain ⟨s, ty, cl, ttl, rA, rn, rc, rd⟩ := r
                  simp only at d0 d1 d2 d3 d4
                  have HSz : Hid (s.size ≤ maxLen) := hid (by have q : s.size ≤ 140737488351232 := HD0.out.2; unfold maxLen; omega)
                  obtain ⟨WA, hWA⟩ : ∃ WA, wr.alloc (.cells #[.string s, .int .i64 ty, .int .i64 cl, .int .i64 ttl, .slice rA rn rc] 46) = WA := ⟨_, rfl⟩
                  have HBA : Hid (Only [] W0 WA) := hid (by rw [← hWA]; exact HB.out.alloc _)
                  have OA : Hid (Ob WA wr.heap.size 46 #[.string s, .int .i64 ty, .int .i64 cl, .int .i64 ttl, .slice rA rn rc]) := hid (by rw [← hWA]; exact Ob.new _ _ _)
                  have m0 := OA.out.cell 0
                  go_wp2_with fail
                  refine (isName1 WA s HSz.out).mono ?_
                  rintro x w4 ⟨rfl, o4⟩
                  have HB4 := hid (HBA.out.trans o4)
                  have O4 := hid (OA.out.only o4 (by simp))
                  have HRd4 : Hid (Rd .u8 w4 rA rn rd) := hid (HD0.out.1.1.only_nil HB4.out)
                  have m1 := O4.out.cell 1
                  have m4 := O4.out.cell 4
                  clear o4 m0 OA hWA
                  by_cases hi : isNm s = true
                  · have HI := hid hi
                    rw [hi]
                    clear hi
                    by_cases h5 : ty = 5
                    · subst h5
                      have hcv := convAny w4 rA rn rc rd HRd4.out
                      have HSd : Hid ((strOfNums rd).size ≤ maxLen) := hid (by have q1 : rd.length = rn := HRd4.out.len; have q2 : rn ≤ 140737488351232 := HD0.out.1.2.2.1; rw [strOf_size, q1]; unfold maxLen; omega)
                      go_wp2_with fail
                      refine (isName1 w4 (strOfNums rd) HSd.out).mono ?_
                      rintro x w5 ⟨rfl, o5⟩
                      have HB5 := hid (HB4.out.trans o5)
                      clear o5
                      by_cases hj : isNm (strOfNums rd) = true
                      · have HJ := hid hj
                        rw [hj]
                        clear hj
                        go_wp2_with fail
                        go_roundw
                        case rel => exact ⟨k + 1, by first | rfl | go_num, by omega, HB5, hid (HNX.out ⟨HI.out, fun _ => HJ.out⟩)⟩
                        case measure => simp [RowKit.intOf]; omega
                      · have HJ := hid hj
                        rw [Bool.eq_false_iff.2 hj]
                        clear hj
                        go_wp2_with fail
                        go_ret2
                        exact ⟨_, 9, rfl, .inr (.inl ⟨rfl, HAG.out, fun h => HBad.out (fun h9 => HJ.out (h9.2 (by first | trivial | rfl | simp))) (fun r hr => ⟨h.1.2 r hr, h.2 r hr⟩)⟩), by rw [if_neg (by decide)]; exact Own.nil _ _ _ _, Q0.out.trans HB5.out⟩
                    · have h5b : (ty == 5) = false := by simpa using h5
                      go_wp2_with fail
                      go_roundw
                      case rel => exact ⟨k + 1, by first | rfl | go_num, by omega, HB4, hid (HNX.out ⟨HI.out, fun h9 => absurd h9 h5⟩)⟩
                      case measure => simp [RowKit.intOf]; omega
                  · have HI := hid hi
                    rw [Bool.eq_false_iff.2 hi]
                    clear hi
                    go_wp2_with fail
                    go_ret2
                    exact ⟨_, 9, rfl, .inr (.inl ⟨rfl, HAG.out, fun h => HBad.out (fun h9 => HI.out h9.1) (fun r hr => ⟨h.1.2 r hr, h.2 r hr⟩)⟩), by rw [if_neg (by decide)]; exact Own.nil _ _ _ _, Q0.out.trans HB4.out⟩
                · have HN2 : Hid (nmOK L1 L2 ∧ cnOK L2) := hid (by
                    have h9 := all_end (by rw [E2.out]; exact hlt) HT.out
                    exact ⟨⟨HN1.out, fun r hr => (h9 r hr).1⟩, fun r hr => (h9 r hr).2⟩)
                  obtain ⟨wzc, hwz⟩ : ∃ wz, wz = wr := ⟨_, rfl⟩
                  subst hwz
                  have HZc := HB
                  clear HB HT
                  go_wp2_with fail
                  clear hlt hk g2 g3
                  go_loopw [9] (fun v wr => ∃ k : Nat, v = .int .i64 k ∧ k ≤ n2 ∧ Hid (Only [] W0 wr) ∧ Hid (∀ r ∈ L2.take k, r.ty = 1 → r.n = 4)) (fun v _ => n2 - (RowKit.intOf v).toNat)
                  case atStart => exact ⟨0, rfl, by omega, HZc, hid (by simp)⟩
                  case round =>
                    obtain ⟨k, rfl, hk, HB, HT⟩ := hrel
                    have g2 : wr.cell? ⟨w.heap.size, 2, none⟩ = some (.slice A1 n1 c1) := (C0.out.only HB.out (by simp)).cell 2
                    have g3 : wr.cell? ⟨w.heap.size, 3, none⟩ = some (.slice A2 n2 c2) := (C0.out.only HB.out (by simp)).cell 3
                    by_cases hlt : k < n2
                    · have HK : Hid (k < L2.length) := hid (by rw [E2.out]; exact hlt)
                      have HNX := hid (fun h1 => all_next HK.out HT.out h1)
                      have HBad : Hid (¬ ((L2.getD k rc0).ty = 1 → (L2.getD k rc0).n = 4) → ¬ frmOK L2) := hid (fun h1 h2 => h1 (h2 _ (rc_mem _ k HK.out)))
                      have HD0 := hid (D2.out _ (rc_mem _ k HK.out))
                      obtain ⟨b, off, rfl, hb, d0, d1, d2, d3, d4⟩ := (R2.out.only_nil HB.out).at k HK.out
                      generalize L2.getD k rc0 = r at *
                      obtain ⟨s, ty, cl, ttl, rA, rn, rc, rd⟩ := r
                      simp only at d0 d1 d2 d3 d4
                      have HSz : Hid (s.size ≤ maxLen) := hid (by have q : s.size ≤ 140737488351232 := HD0.out.2; unfold maxLen; omega)
                      by_cases h5 : ty = 1
                      · subst h5
                        by_cases h6 : rn = 4
                        · subst h6
                          go_wp2_with fail
                          go_roundw
                          case rel => exact ⟨k + 1, by first | rfl | go_num, by omega, HB, hid (HNX.out (fun _ => rfl))⟩
                          case measure => simp [RowKit.intOf]; omega
                        · have h6b : ((rn : Int) == 4) = false := by simp; omega
                          have h6c : ¬ (rn : Int) = 4 := by omega
                          go_wp2_with fail
                          go_ret2
                          exact ⟨_, 3, rfl, .inr (.inr (.inl ⟨rfl, HAG.out, HN2.out.1, HN2.out.2, HBad.out (fun h9 => h6 (h9 (by first | trivial | rfl | simp)))⟩)), by rw [if_neg (by decide)]; exact Own.nil _ _ _ _, Q0.out.trans HB.out⟩
                      · have h5b : (ty == 1) = false := by simpa using h5
                        go_wp2_with fail
                        go_roundw
                        case rel => exact ⟨k + 1, by first | rfl | go_num, by omega, HB, hid (HNX.out (fun h9 => absurd h9 h5))⟩
                        case measure => simp [RowKit.intOf]; omega
                    · have HF : Hid (frmOK L2) := hid (all_end (by rw [E2.out]; exact hlt) HT.out)
                      obtain ⟨wzf, hwz⟩ : ∃ wz, wz = wr := ⟨_, rfl⟩
                      subst hwz
                      have HZf := HB
                      clear HB HT
                      go_wp2_with fail
                      clear hlt hk g2 g3
                      go_loopw [10] (fun v wr => ∃ k : Nat, v = .int .i64 k ∧ k ≤ n2 ∧ Hid (Only [] W0 wr) ∧ Hid (∀ r ∈ L2.take k, r.n ≤ 65535)) (fun v _ => n2 - (RowKit.intOf v).toNat)
                      case atStart => exact ⟨0, rfl, by omega, HZf, hid (by simp)⟩
                      case round =>
                        obtain ⟨k, rfl, hk, HB, HT⟩ := hrel
                        have g2 : wr.cell? ⟨w.heap.size, 2, none⟩ = some (.slice A1 n1 c1) := (C0.out.only HB.out (by simp)).cell 2
                        have g3 : wr.cell? ⟨w.heap.size, 3, none⟩ = some (.slice A2 n2 c2) := (C0.out.only HB.out (by simp)).cell 3
                        by_cases hlt : k < n2
                        · have HK : Hid (k < L2.length) := hid (by rw [E2.out]; exact hlt)
                          have HNX := hid (fun h1 => all_next HK.out HT.out h1)
                          have HBad : Hid (¬ ((L2.getD k rc0).n ≤ 65535) → ¬ lngOK L2) := hid (fun h1 h2 => h1 (h2 _ (rc_mem _ k HK.out)))
                          have HD0 := hid (D2.out _ (rc_mem _ k HK.out))
                          obtain ⟨b, off, rfl, hb, d0, d1, d2, d3, d4⟩ := (R2.out.only_nil HB.out).at k HK.out
                          generalize L2.getD k rc0 = r at *
                          obtain ⟨s, ty, cl, ttl, rA, rn, rc, rd⟩ := r
                          simp only at d0 d1 d2 d3 d4
                          have HSz : Hid (s.size ≤ maxLen) := hid (by have q : s.size ≤ 140737488351232 := HD0.out.2; unfold maxLen; omega)
                          by_cases h6 : rn ≤ 65535
                          · have h6c : ¬ (65535 : Int) < (rn : Int) := by omega
                            go_wp2_with fail
                            go_roundw
                            case rel => exact ⟨k + 1, by first | rfl | go_num, by omega, HB, hid (HNX.out h6)⟩
                            case measure => simp [RowKit.intOf]; omega
                          · have h6c : (65535 : Int) < (rn : Int) := by omega
                            go_wp2_with fail
                            go_ret2
                            exact ⟨_, 5, rfl, .inr (.inr (.inr (.inl ⟨rfl, HAG.out, HN2.out.1, HN2.out.2, HF.out, HBad.out h6⟩))), by rw [if_neg (by decide)]; exact Own.nil _ _ _ _, Q0.out.trans HB.out⟩
                        · have HG : Hid (lngOK L2) := hid (all_end (by rw [E2.out]; exact hlt) HT.out)
                          obtain ⟨wzl, hwz⟩ : ∃ wz, wz = wr := ⟨_, rfl⟩
                          subst hwz
                          have HZl := HB
                          clear HB HT
                          go_wp2_with fail
                          clear hlt hk g2 g3
                          have CB := hid (C0.out.only HZl.out (by simp))
                          refine wp_region_noPanic ?_
                          refine rgn.regionT (R := Same w.heap.size) (by kernel_rfl) (Same.refl w.heap.size) (Same.trans (g := w.heap.size)) (fun _ _ _ _ _ h => h) (.y 0 (.y 1 (.y 3 (.y 4 (.e 2 (.e 5 (.e 6 (.e 7 .z)))))))) (by kernel_rfl) (fun W hWd => ?_)
                          have HWd := hid hWd; clear hWd
                          have o9 : Only [] wzl W := by rw [HWd.out]; exact (Only.refl [] _).drew
                          have HQ := hid (HZl.out.trans o9)
                          have HC := hid (CB.out.only o9 (by simp))
                          have HC0 := HC
                          clear HWd o9
                          refine rgn.Walk.ys (v := ?_) rfl rfl rfl ?_ ?_
                          rotate_left 1
                          · intro W' hW'
                            go_simp
                            try with_reducible rfl
                          try simp only [Act.put, List.setIfInBounds_toArray, List.set_cons_zero, List.set_cons_succ]
                          refine rgn.Walk.ys (v := ?_) rfl rfl rfl ?_ ?_
                          rotate_left 1
                          · intro W' hW'
                            have q0 := (HC0.out.same hW').cell 0
                            go_simp
                            try with_reducible rfl
                          try simp only [Act.put, List.setIfInBounds_toArray, List.set_cons_zero, List.set_cons_succ]
                          refine rgn.Walk.ys (v := ?_) rfl rfl rfl ?_ ?_
                          rotate_left 1
                          · intro W' hW'
                            go_simp
                            try with_reducible rfl
                          try simp only [Act.put, List.setIfInBounds_toArray, List.set_cons_zero, List.set_cons_succ]
                          refine rgn.Walk.ys (v := ?_) rfl rfl rfl ?_ ?_
                          rotate_left 1
                          · intro W' hW'
                            have q0 := (HC0.out.same hW').cell 1
                            go_simp
                            try with_reducible rfl
                          try simp only [Act.put, List.setIfInBounds_toArray, List.set_cons_zero, List.set_cons_succ]
                          refine rgn.Walk.es ?_
                          refine rgn.stepE rfl rfl (fun K hK => ?_)
                          go_simp
                          refine (ref.two1 _ id).mono ?_
                          rintro x w1 ⟨g1, rfl, ht1, o1⟩
                          refine hK _ _ (Same.only o1 HC.out.lt) ?_
                          clear hK K
                          have HV := hid (ht1.mono_base HQ.out.size)
                          have HQ := hid (HQ.out.trans o1); have HC := hid (HC.out.only o1 (by simp))
                          clear ht1 o1
                          try simp only [Act.put, List.setIfInBounds_toArray, List.set_cons_zero, List.set_cons_succ]
                          refine rgn.Walk.es ?_
                          refine rgn.stepE rfl rfl (fun K hK => ?_)
                          go_simp
                          refine (ref.two1 _ fl).mono ?_
                          rintro x w2 ⟨g2, rfl, ht2, o2⟩
                          refine hK _ _ (Same.only o2 HC.out.lt) ?_
                          clear hK K
                          have HV := hid (HV.out.only_nil o2)
                          have HT := hid (ht2.mono_base HQ.out.size)
                          have HQ := hid (HQ.out.trans o2); have HC := hid (HC.out.only o2 (by simp))
                          clear ht2 o2
                          try simp only [Act.put, List.setIfInBounds_toArray, List.set_cons_zero, List.set_cons_succ]
                          refine rgn.Walk.es ?_
                          refine rgn.stepE rfl rfl (fun K hK => ?_)
                          refine opApp rfl (.tmp 158) (.tmp 161) _ rfl wrt.elemB W0.heap.size _ _ rfl HV.out (some ⟨g2, 0, none⟩) 2 2 (ref.two fl) rfl HT.out.rd (by intro e; cases e) (by simp [ref.two, maxLen]) (by simp [ref.two, maxLen]) HQ.out.size ?_
                          intro vb3 wa3 hv3 hg3 hb3
                          refine hK _ _ (Same.grown hg3 HC.out.lt (ob_own_ne (by decide) HC.out HV.out.1)) ?_
                          clear hK K
                          have HC := hid (HC.out.same (Same.grown hg3 HC.out.lt (ob_own_ne (by decide) HC.out HV.out.1)))
                          have HQ := hid (HQ.out.of_grown hg3 (fun i hi => .inr (HV.out.lt i hi).1))
                          have HV := hid hv3
                          clear hv3 hg3 hb3 HT
                          try simp only [Act.put, List.setIfInBounds_toArray, List.set_cons_zero, List.set_cons_succ]
                          refine rgn.Walk.es ?_
                          refine rgn.stepE rfl rfl (fun K hK => ?_)
                          go_simp
                          refine hK _ _ ((Same.refl w.heap.size) _) ?_
                          clear hK K
                          try simp only [Act.put, List.setIfInBounds_toArray, List.set_cons_zero, List.set_cons_succ]
                          refine rgn.Walk.zs (NoPanic.normal ?_)
                          go_wp2_with fail
                          refine wp_region_noPanic ?_
                          refine rgn.regionT (R := Same w.heap.size) (by kernel_rfl) (Same.refl w.heap.size) (Same.trans (g := w.heap.size)) (fun _ _ _ _ _ h => h) (.y 0 (.y 1 (.y 2 (.y 3 (.y 6 (.y 7 (.y 8 (.e 4 (.e 5 (.e 9 (.e 10 (.e 11 .z)))))))))))) (by kernel_rfl) (fun W hWd => ?_)
                          have HWd := hid hWd; clear hWd
                          have o9 := Only.eq_drew (Only.refl [] _) HWd.out
                          have HQ := hid (HQ.out.trans o9)
                          have HC := hid (HC.out.only o9 (by simp))
                          have HV := hid (HV.out.only_nil o9)
                          have HC0 := HC
                          clear HWd o9
                          refine rgn.Walk.ys (v := ?_) rfl rfl rfl ?_ ?_
                          rotate_left 1
                          · intro W' hW'
                            go_simp
                            try with_reducible rfl
                          try simp only [Act.put, List.setIfInBounds_toArray, List.set_cons_zero, List.set_cons_succ]
                          refine rgn.Walk.ys (v := ?_) rfl rfl rfl ?_ ?_
                          rotate_left 1
                          · intro W' hW'
                            go_simp
                            try with_reducible rfl
                          try simp only [Act.put, List.setIfInBounds_toArray, List.set_cons_zero, List.set_cons_succ]
                          refine rgn.Walk.ys (v := ?_) rfl rfl rfl ?_ ?_
                          rotate_left 1
                          · intro W' hW'
                            have q0 := (HC0.out.same hW').cell 2
                            go_simp
                            try with_reducible rfl
                          try simp only [Act.put, List.setIfInBounds_toArray, List.set_cons_zero, List.set_cons_succ]
                          refine rgn.Walk.ys (v := ?_) rfl rfl rfl ?_ ?_
                          rotate_left 1
                          · intro W' hW'
                            go_simp
                            try with_reducible rfl
                          try simp only [Act.put, List.setIfInBounds_toArray, List.set_cons_zero, List.set_cons_succ]
                          refine rgn.Walk.ys (v := ?_) rfl rfl rfl ?_ ?_
                          rotate_left 1
                          · intro W' hW'
                            go_simp
                            try with_reducible rfl
                          try simp only [Act.put, List.setIfInBounds_toArray, List.set_cons_zero, List.set_cons_succ]
                          refine rgn.Walk.ys (v := ?_) rfl rfl rfl ?_ ?_
                          rotate_left 1
                          · intro W' hW'
                            have q0 := (HC0.out.same hW').cell 3
                            go_simp
                            try with_reducible rfl
                          try simp only [Act.put, List.setIfInBounds_toArray, List.set_cons_zero, List.set_cons_succ]
                          refine rgn.Walk.ys (v := ?_) rfl rfl rfl ?_ ?_
                          rotate_left 1
                          · intro W' hW'
                            go_simp
                            try with_reducible rfl
                          try simp only [Act.put, List.setIfInBounds_toArray, List.set_cons_zero, List.set_cons_succ]
                          refine rgn.Walk.es ?_
                          refine rgn.stepE rfl rfl (fun K hK => ?_)
                          go_simp
                          refine (ref.two1 _ n1).mono ?_
                          rintro x w4 ⟨g4, rfl, ht4, o4⟩
                          refine hK _ _ (Same.only o4 HC.out.lt) ?_
                          clear hK K
                          have HV := hid (HV.out.only_nil o4)
                          have HT := hid (ht4.mono_base HQ.out.size)
                          have HQ := hid (HQ.out.trans o4); have HC := hid (HC.out.only o4 (by simp))
                          clear ht4 o4
                          try simp only [Act.put, List.setIfInBounds_toArray, List.set_cons_zero, List.set_cons_succ]
                          refine rgn.Walk.es ?_
                          refine rgn.stepE rfl rfl (fun K hK => ?_)
                          refine opApp rfl (.tmp 163) (.tmp 167) _ rfl wrt.elemB W0.heap.size _ _ rfl HV.out (some ⟨g4, 0, none⟩) 2 2 (ref.two n1) rfl HT.out.rd (by intro e; cases e) (by simp [ref.two, maxLen]) (by simp [ref.two, maxLen]) HQ.out.size ?_
                          intro vb5 wa5 hv5 hg5 hb5
                          refine hK _ _ (Same.grown hg5 HC.out.lt (ob_own_ne (by decide) HC.out HV.out.1)) ?_
                          clear hK K
                          have HC := hid (HC.out.same (Same.grown hg5 HC.out.lt (ob_own_ne (by decide) HC.out HV.out.1)))
                          have HQ := hid (HQ.out.of_grown hg5 (fun i hi => .inr (HV.out.lt i hi).1))
                          have HV := hid hv5
                          clear hv5 hg5 hb5 HT
                          try simp only [Act.put, List.setIfInBounds_toArray, List.set_cons_zero, List.set_cons_succ]
                          refine rgn.Walk.es ?_
                          refine rgn.stepE rfl rfl (fun K hK => ?_)
                          go_simp
                          refine (ref.two1 _ n2).mono ?_
                          rintro x w6 ⟨g6, rfl, ht6, o6⟩
                          refine hK _ _ (Same.only o6 HC.out.lt) ?_
                          clear hK K
                          have HV := hid (HV.out.only_nil o6)
                          have HT := hid (ht6.mono_base HQ.out.size)
                          have HQ := hid (HQ.out.trans o6); have HC := hid (HC.out.only o6 (by simp))
                          clear ht6 o6
                          try simp only [Act.put, List.setIfInBounds_toArray, List.set_cons_zero, List.set_cons_succ]
                          refine rgn.Walk.es ?_
                          refine rgn.stepE rfl rfl (fun K hK => ?_)
                          refine opApp rfl (.tmp 168) (.tmp 172) _ rfl wrt.elemB W0.heap.size _ _ rfl HV.out (some ⟨g6, 0, none⟩) 2 2 (ref.two n2) rfl HT.out.rd (by intro e; cases e) (by simp [ref.two, maxLen]) (by simp [ref.two, maxLen]) HQ.out.size ?_
                          intro vb7 wa7 hv7 hg7 hb7
                          refine hK _ _ (Same.grown hg7 HC.out.lt (ob_own_ne (by decide) HC.out HV.out.1)) ?_
                          clear hK K
                          have HC := hid (HC.out.same (Same.grown hg7 HC.out.lt (ob_own_ne (by decide) HC.out HV.out.1)))
                          have HQ := hid (HQ.out.of_grown hg7 (fun i hi => .inr (HV.out.lt i hi).1))
                          have HV := hid hv7
                          clear hv7 hg7 hb7 HT
                          try simp only [Act.put, List.setIfInBounds_toArray, List.set_cons_zero, List.set_cons_succ]
                          refine rgn.Walk.es ?_
                          refine rgn.stepE rfl rfl (fun K hK => ?_)
                          go_simp
                          refine hK _ _ ((Same.refl w.heap.size) _) ?_
                          clear hK K
                          try simp only [Act.put, List.setIfInBounds_toArray, List.set_cons_zero, List.set_cons_succ]
                          refine rgn.Walk.zs (NoPanic.normal ?_)
                          go_wp2_with (at_builtin; refine wpList_app _ rfl (.tmp 174) (.tmp 175) _ rfl wrt.elemB W0.heap.size _ _ rfl (HV.out.alloc _) (some ⟨_, 0, none⟩) 4 4 [0, 0, 0, 0] rfl ?c2 ?c3 ?c4 ?c5 ?c6 ?_)
                          case c2 => exact (Own.lit .u8 5 _ W0.heap.size [0, 0, 0, 0] _ 4 rfl rfl HQ.out.size (by decide) (by decide)).rd
                          case c3 => simp
                          case c4 => simp [ref.two]
                          case c5 => simp [ref.two, maxLen]
                          case c6 => have := HQ.out.size; simp; omega
                          intro v12 w12 hv12 hg12 hb12
                          have HV12 : Hid (Own .u8 5 w12 W0.heap.size v12 (twos [id, fl, (n1 : Int), (n2 : Int), 0, 0])) := hid hv12
                          have HQ12 := hid ((HQ.out.alloc _).of_grown hg12 (fun i hi => .inr (HV.out.lt i hi).1))
                          clear hv12 hg12 hb12 HV HQ
                          go_wp2_with fail
                          go_loopw [12, 11] (fun i vb wr => ∃ (k : Nat) (v : Value), v = vb ∧ i = .int .i64 k ∧ k ≤ n1 ∧ Hid (Own .u8 5 wr W0.heap.size v (twos [id, fl, (n1 : Int), (n2 : Int), 0, 0] ++ (L1.take k).flatMap hdB)) ∧ Hid (Only [] W0 wr)) (fun i _ _ => n1 - (RowKit.intOf i).toNat)
                          case atStart => exact ⟨0, _, rfl, rfl, by omega, hid (by simpa using HV12.out), HQ12⟩
                          case round =>
                            clear HV12 HQ12
                            obtain ⟨k, v, rfl, rfl, hk, HV, HB⟩ := hrel
                            have HL : Hid ((twos [id, fl, (n1 : Int), (n2 : Int), 0, 0] ++ (L1.take k).flatMap hdB).length ≤ 1280300) := hid (by
                              have := heads_size L1 k
                              rw [List.length_append]
                              show 12 + _ ≤ _
                              omega)
                            have g2 : wr.cell? ⟨w.heap.size, 2, none⟩ = some (.slice A1 n1 c1) := (C0.out.only HB.out (by simp)).cell 2
                            by_cases hlt : k < n1
                            · have HK : Hid (k < L1.length) := hid (by rw [E1.out]; exact hlt)
                              have HNX := hid (flat_next (f := hdB) HK.out)
                              have HD0 := hid (D1.out _ (rc_mem _ k HK.out))
                              obtain ⟨b, off, rfl, hb, d0, d1, d2, d3, d4⟩ := (R1.out.only_nil HB.out).at k HK.out
                              generalize L1.getD k rc0 = r at *
                              obtain ⟨s, ty, cl, ttl, rA, rn, rc, rd⟩ := r
                              simp only at d0 d1 d2 d3 d4
                              have HSz : Hid (s.size ≤ maxLen) := hid (by have q : s.size ≤ 140737488351232 := HD0.out.2; unfold maxLen; omega)
                              go_wp2_with fail
                              refine (headD wr s ty cl ttl rA rn rc HSz.out).mono ?_
                              rintro x w4 ⟨vh, rfl, h4, o4⟩
                              have HV4 := hid (HV.out.only_nil o4)
                              have HB4 := hid (HB.out.trans o4)
                              obtain ⟨Ah, ch, rfl, hRh, hAh⟩ := own_form h4
                              have HR4 := hid hRh
                              have HAh : Hid (Ah = none → ch = 0) := hid (fun e => by
                                rcases hAh with ⟨_, h⟩ | ⟨b, o, h⟩
                                · exact h
                                · rw [h] at e; cases e)
                              clear h4 o4 hRh hAh
                              go_wp2_with (at_builtin; refine wpList_app _ rfl (.tmp 184) (.tmp 190) _ rfl wrt.elemB W0.heap.size v _ rfl HV4.out Ah (hd s ty cl).length ch (hd s ty cl) rfl HR4.out HAh.out (by have := HL.out; have := hd_size s ty cl; omega) (by have := HL.out; have := hd_size s ty cl; unfold maxLen; omega) HB4.out.size ?_)
                              intro v5 w5 hv5 hg5 hb5
                              have HV5 := hid hv5
                              have HB5 := hid (HB4.out.of_grown hg5 (fun i hi => .inr (HV4.out.lt i hi).1))
                              clear hv5 hg5 hb5
                              go_wp2_with fail
                              go_roundw
                              case rel => exact ⟨k + 1, v5, rfl, by first | rfl | go_num, by omega, hid (by rw [HNX.out, ← List.append_assoc]; exact HV5.out), HB5⟩
                              case measure => simp [RowKit.intOf]; omega
                            · obtain ⟨P, hP⟩ : ∃ P, twos [id, fl, (n1 : Int), (n2 : Int), 0, 0] ++ heads L1 = P := ⟨_, rfl⟩
                              have HPs : Hid (P.length ≤ 1280300) := hid (by
                                have := HL.out
                                rw [flat_end (by rw [E1.out]; exact hlt)] at this
                                rw [← hP]; exact this)
                              have HP := hid hP
                              have HVy : Hid (Own .u8 5 wr W0.heap.size v P) := hid (by have := HV.out; rw [flat_end (by rw [E1.out]; exact hlt)] at this; rw [← hP]; exact this)
                              obtain ⟨wzh, hwz⟩ : ∃ wz, wz = wr := ⟨_, rfl⟩
                              subst hwz
                              have HQy := HB
                              clear HV HB HL hP
                              go_wp2_with fail
                              clear hlt hk g2
                              go_loopw [13, 11, 15] (fun i vb v15 wr => ∃ (k : Nat) (v : Value), v = vb ∧ i = .int .i64 k ∧ k ≤ n2 ∧ Hid (Own .u8 5 wr W0.heap.size v (P ++ (L2.take k).flatMap ansB)) ∧ Hid (Only [] W0 wr)) (fun i _ _ _ => n2 - (RowKit.intOf i).toNat)
                              case atStart => exact ⟨0, v, rfl, rfl, by omega, hid (by simpa using HVy.out), HQy⟩
                              case round =>
                                clear HVy HQy
                                obtain ⟨k, v, rfl, rfl, hk, HV, HB⟩ := hrel
                                have HL : Hid ((P ++ (L2.take k).flatMap ansB).length ≤ 6800000) := hid (by
                                  have := answ_size D2.out HG.out k
                                  have := HPs.out
                                  rw [List.length_append]
                                  omega)
                                have g3 : wr.cell? ⟨w.heap.size, 3, none⟩ = some (.slice A2 n2 c2) := (C0.out.only HB.out (by simp)).cell 3
                                by_cases hlt : k < n2
                                · have HK : Hid (k < L2.length) := hid (by rw [E2.out]; exact hlt)
                                  have HNX := hid (flat_next (f := ansB) HK.out)
                                  have HD0 := hid (D2.out _ (rc_mem _ k HK.out))
                                  have HN0 := hid (HG.out _ (rc_mem _ k HK.out))
                                  have HT0 := hid (arg_ttl HAG.out _ (rc_mem _ k HK.out))
                                  have HDsz := hid (datB_size HD0.out.1.1 HN0.out)
                                  have HDCn := hid (fun h => datB_cn (r := L2.getD k rc0) h)
                                  have HDNo := hid (fun h => datB_no (r := L2.getD k rc0) h)
                                  obtain ⟨b, off, rfl, hb, d0, d1, d2, d3, d4⟩ := (R2.out.only_nil HB.out).at k HK.out
                                  generalize L2.getD k rc0 = r at *
                                  obtain ⟨s, ty, cl, ttl, rA, rn, rc, rd⟩ := r
                                  simp only at d0 d1 d2 d3 d4
                                  have HSz : Hid (s.size ≤ maxLen) := hid (by have q : s.size ≤ 140737488351232 := HD0.out.2; unfold maxLen; omega)
                                  have hu : IntKind.u32.wrap ttl = ttl := by have h1 : 0 ≤ ttl := HT0.out.1; have h2 : ttl ≤ 2147483647 := HT0.out.2; rw [IntKind.wrap_u32]; omega
                                  have hrn : rn ≤ 65535 := HN0.out
                                  obtain ⟨WA, hWA⟩ : ∃ WA, wr.alloc (.cells #[.string s, .int .i64 ty, .int .i64 cl, .int .i64 ttl, .slice rA rn rc] 46) = WA := ⟨_, rfl⟩
                                  have oA : Only [] wr WA := by rw [← hWA]; exact (Only.refl [] wr).alloc _
                                  have HBA : Hid (Only [] W0 WA) := hid (HB.out.trans oA)
                                  have HVA := hid (HV.out.only_nil oA)
                                  have OA : Hid (Ob WA wr.heap.size 46 #[.string s, .int .i64 ty, .int .i64 cl, .int .i64 ttl, .slice rA rn rc]) := hid (by rw [← hWA]; exact Ob.new _ _ _)
                                  have HRdA : Hid (Rd .u8 WA rA rn rd) := hid (HD0.out.1.1.only_nil HBA.out)
                                  have HrZ : Hid (rA = none → rc = 0) := hid HD0.out.1.2.1
                                  have m1 := OA.out.cell 1
                                  have m4 := OA.out.cell 4
                                  obtain ⟨l, hl⟩ : ∃ l, P ++ (L2.take k).flatMap ansB = l := ⟨_, rfl⟩
                                  rw [hl] at HVA HL
                                  have HLl := hid hl
                                  clear oA hl HV
                                  by_cases h5 : ty = 5
                                  · have HC5 := hid h5
                                    subst h5
                                    have hcv := convAny WA rA rn rc rd HRdA.out
                                    have HCh : Hid (chs (strOfNums rd) = rd) := hid (chs_nums rd (rd_bd HRdA.out))
                                    have HSd : Hid ((strOfNums rd).size ≤ maxLen) := hid (by have q1 : rd.length = rn := HRdA.out.len; rw [strOf_size, q1]; unfold maxLen; omega)
                                    go_wp2_with fail
                                    refine (packD WA (strOfNums rd) HSd.out).mono ?_
                                    rw [HCh.out]
                                    rintro x w6 ⟨v6, rfl, hv6, o6⟩
                                    have hdd : datB ⟨s, 5, cl, ttl, rA, rn, rc, rd⟩ = (packs rd).1 := HDCn.out (by first | trivial | rfl | simp)
                                    rw [← hdd] at hv6
                                    obtain ⟨p2, hp2⟩ : ∃ p2, (packs rd).2 = p2 := ⟨_, rfl⟩
                                    rw [hp2]
                                    have HV6 := hid hv6
                                    have HQc := hid (HBA.out.trans o6)
                                    have HVc := hid (HVA.out.only_nil o6)
                                    have CUc := hid (OA.out.only o6 (by simp))
                                    have HVl := hid (fun i hi => (HVA.out.lt i hi).2)
                                    clear hv6 o6 hdd m1 m4 hcv hp2 HBA HVA OA hWA
                                    obtain ⟨d, hd0⟩ : ∃ d, datB ⟨s, 5, cl, ttl, rA, rn, rc, rd⟩ = d := ⟨_, rfl⟩
                                    have HDd := hid hd0
                                    rw [hd0] at HV6
                                    have HDz0 : d.length ≤ 65535 := by rw [← hd0]; exact HDsz.out
                                    clear hd0
                                    obtain ⟨A6, c6, rfl, hR6, hA6⟩ := own_form HV6.out
                                    obtain ⟨dn, hdn⟩ : ∃ dn, d.length = dn := ⟨_, rfl⟩
                                    have HDn := hid hdn
                                    have HDz := hid HDz0
                                    have HDc := hid (DR.of_new hR6 HV6.out HVl.out)
                                    have HZd : Hid (A6 = none → c6 = 0) := hid (fun e => by
                                      rcases hA6 with ⟨_, h⟩ | ⟨b, o, h⟩
                                      · exact h
                                      · rw [h] at e; cases e)
                                    rw [hdn] at HV6 HDz HDc
                                    rw [hdn]
                                    clear hdn hR6 hA6 HDz0 HVl
                                    go_wp2_with fail
                                    refine wp_region_noPanic ?_
                                    refine rgn.regionT (R := Same wr.heap.size) (by kernel_rfl) (Same.refl wr.heap.size) (Same.trans (g := wr.heap.size)) (fun _ _ _ _ _ h => h) (.y 0 (.y 1 (.y 4 (.y 5 (.y 6 (.e 2 (.e 3 (.e 7 (.e 8 (.e 9 .z)))))))))) (by kernel_rfl) (fun W hWd => ?_)
                                    have HWd := hid hWd; clear hWd
                                    have o9 := Only.eq_drew (Only.refl [] _) HWd.out
                                    have HQ := hid (HQc.out.trans o9)
                                    have HC := hid (CUc.out.only o9 (by simp))
                                    have HV := hid (HVc.out.only_nil o9)
                                    have HVD := hid (HDc.out.only_nil o9)
                                    have HC0 := HC
                                    clear HWd o9
                                    refine rgn.Walk.ys (v := ?_) rfl rfl rfl ?_ ?_
                                    rotate_left 1
                                    · intro W' hW'
                                      go_simp
                                      try with_reducible rfl
                                    try simp only [Act.put, List.setIfInBounds_toArray, List.set_cons_zero, List.set_cons_succ]
                                    refine rgn.Walk.ys (v := ?_) rfl rfl rfl ?_ ?_
                                    rotate_left 1
                                    · intro W' hW'
                                      have q0 := (HC0.out.same hW').cell 0
                                      have p1 := (HC0.out.same hW').cell 1
                                      have p2 := (HC0.out.same hW').cell 2
                                      have p3 := (HC0.out.same hW').cell 3
                                      have p4 := (HC0.out.same hW').cell 4
                                      go_simp
                                      try with_reducible rfl
                                    try simp only [Act.put, List.setIfInBounds_toArray, List.set_cons_zero, List.set_cons_succ]
                                    refine rgn.Walk.ys (v := ?_) rfl rfl rfl ?_ ?_
                                    rotate_left 1
                                    · intro W' hW'
                                      go_simp
                                      try with_reducible rfl
                                    try simp only [Act.put, List.setIfInBounds_toArray, List.set_cons_zero, List.set_cons_succ]
                                    refine rgn.Walk.ys (v := ?_) rfl rfl rfl ?_ ?_
                                    rotate_left 1
                                    · intro W' hW'
                                      have q0 := (HC0.out.same hW').cell 3
                                      go_simp
                                      try with_reducible rfl
                                    try simp only [Act.put, List.setIfInBounds_toArray, List.set_cons_zero, List.set_cons_succ]
                                    refine rgn.Walk.ys (v := ?_) rfl rfl rfl ?_ ?_
                                    rotate_left 1
                                    · intro W' hW'
                                      go_simp
                                      try with_reducible rfl
                                    try simp only [Act.put, List.setIfInBounds_toArray, List.set_cons_zero, List.set_cons_succ]
                                    refine rgn.Walk.es ?_
                                    refine rgn.stepE rfl rfl (fun K hK => ?_)
                                    go_simp
                                    refine (headD _ s 5 cl ttl rA rn rc HSz.out).mono ?_
                                    rintro x w1 ⟨vh, rfl, ht1, o1⟩
                                    refine hK _ _ (Same.only o1 HC.out.lt) ?_
                                    clear hK K
                                    have HV := hid (HV.out.only_nil o1); have HVD := hid (HVD.out.only_nil o1)
                                    have HT0 := hid (ht1.mono_base HQ.out.size)
                                    have HQ := hid (HQ.out.trans o1); have HC := hid (HC.out.only o1 (by simp))
                                    clear ht1 o1
                                    obtain ⟨Ah, ch, rfl, hRh, hAh⟩ := own_form HT0.out
                                    have HT := hid hRh
                                    have HAh : Hid (Ah = none → ch = 0) := hid (fun e => by
                                      rcases hAh with ⟨_, h⟩ | ⟨b, o, h⟩
                                      · exact h
                                      · rw [h] at e; cases e)
                                    clear hRh hAh HT0
                                    try simp only [Act.put, List.setIfInBounds_toArray, List.set_cons_zero, List.set_cons_succ]
                                    refine rgn.Walk.es ?_
                                    refine rgn.stepE rfl rfl (fun K hK => ?_)
                                    refine opApp rfl (.tmp 216) (.tmp 218) _ rfl wrt.elemB W0.heap.size _ _ rfl HV.out Ah (hd s 5 cl).length ch (hd s 5 cl) rfl HT.out HAh.out (by have := HL.out; have := hd_size s 5 cl; omega) (by have := HL.out; have := hd_size s 5 cl; unfold maxLen; omega) HQ.out.size ?_
                                    intro vb2 wa2 hv2 hg2 hb2
                                    refine hK _ _ (Same.grown hg2 HC.out.lt (ob_own_ne (by decide) HC.out HV.out.1)) ?_
                                    clear hK K
                                    have HC := hid (HC.out.same (Same.grown hg2 HC.out.lt (ob_own_ne (by decide) HC.out HV.out.1)))
                                    have HVD := hid (HVD.out.grown hg2 hb2)
                                    have HQ := hid (HQ.out.of_grown hg2 (fun i hi => .inr (HV.out.lt i hi).1))
                                    have HV := hid hv2
                                    clear hv2 hg2 hb2 HT HAh
                                    try simp only [Act.put, List.setIfInBounds_toArray, List.set_cons_zero, List.set_cons_succ]
                                    refine rgn.Walk.es ?_
                                    refine rgn.stepE rfl rfl (fun K hK => ?_)
                                    go_simp
                                    refine (ref.four1 _ ttl).mono ?_
                                    rintro x w3 ⟨g3, rfl, ht3, o3⟩
                                    refine hK _ _ (Same.only o3 HC.out.lt) ?_
                                    clear hK K
                                    have HV := hid (HV.out.only_nil o3); have HVD := hid (HVD.out.only_nil o3)
                                    have HT := hid (ht3.mono_base HQ.out.size)
                                    have HQ := hid (HQ.out.trans o3); have HC := hid (HC.out.only o3 (by simp))
                                    clear ht3 o3
                                    try simp only [Act.put, List.setIfInBounds_toArray, List.set_cons_zero, List.set_cons_succ]
                                    refine rgn.Walk.es ?_
                                    refine rgn.stepE rfl rfl (fun K hK => ?_)
                                    refine opApp rfl (.tmp 219) (.tmp 223) _ rfl wrt.elemB W0.heap.size _ _ rfl HV.out (some ⟨g3, 0, none⟩) 4 4 (ref.four ttl) rfl HT.out.rd (by intro e; cases e) (by have := HL.out; have := hd_size s 5 cl; rw [List.length_append]; omega) (by have := HL.out; have := hd_size s 5 cl; rw [List.length_append]; unfold maxLen; omega) HQ.out.size ?_
                                    intro vb4 wa4 hv4 hg4 hb4
                                    refine hK _ _ (Same.grown hg4 HC.out.lt (ob_own_ne (by decide) HC.out HV.out.1)) ?_
                                    clear hK K
                                    have HC := hid (HC.out.same (Same.grown hg4 HC.out.lt (ob_own_ne (by decide) HC.out HV.out.1)))
                                    have HVD := hid (HVD.out.grown hg4 hb4)
                                    have HQ := hid (HQ.out.of_grown hg4 (fun i hi => .inr (HV.out.lt i hi).1))
                                    have HV := hid hv4
                                    clear hv4 hg4 hb4 HT
                                    try simp only [Act.put, List.setIfInBounds_toArray, List.set_cons_zero, List.set_cons_succ]
                                    refine rgn.Walk.es ?_
                                    refine rgn.stepE rfl rfl (fun K hK => ?_)
                                    go_simp
                                    refine hK _ _ ((Same.refl wr.heap.size) _) ?_
                                    clear hK K
                                    try simp only [Act.put, List.setIfInBounds_toArray, List.set_cons_zero, List.set_cons_succ]
                                    refine rgn.Walk.zs (NoPanic.normal ?_)
                                    go_wp2_with fail
                                    refine (ref.two1 _ dn).mono ?_
                                    rintro x w8 ⟨g8, rfl, h8, o8⟩
                                    have HV := hid (HV.out.only_nil o8); have HVD := hid (HVD.out.only_nil o8)
                                    have HT := hid (h8.mono_base HQ.out.size)
                                    have HQ := hid (HQ.out.trans o8)
                                    clear h8 o8
                                    go_wp2_with (at_builtin; refine wpList_app _ rfl (.tmp 225) (.tmp 228) _ rfl wrt.elemB W0.heap.size _ _ rfl HV.out (some ⟨g8, 0, none⟩) 2 2 (ref.two dn) rfl HT.out.rd (by intro e; cases e) (by have := HL.out; have := hd_size s 5 cl; have := HDz.out; simp only [List.length_append, ref.two, ref.four, List.length_cons, List.length_nil]; omega) (by have := HL.out; have := hd_size s 5 cl; have := HDz.out; simp only [List.length_append, ref.two, ref.four, List.length_cons, List.length_nil]; unfold maxLen; omega) HQ.out.size ?_)
                                    intro v9 w9 hv9 hg9 hb9
                                    have HVD := hid (HVD.out.grown hg9 hb9)
                                    have HQ := hid (HQ.out.of_grown hg9 (fun i hi => .inr (HV.out.lt i hi).1))
                                    have HV := hid hv9
                                    clear hv9 hg9 hb9 HT
                                    go_wp2_with (at_builtin; refine wpList_app _ rfl (.tmp 229) (.tmp 230) _ rfl wrt.elemB W0.heap.size _ _ rfl HV.out A6 dn c6 d rfl HVD.out.1 HZd.out (by have := HL.out; have := hd_size s 5 cl; have := HDz.out; simp only [List.length_append, ref.two, ref.four, List.length_cons, List.length_nil]; omega) (by have := HL.out; have := hd_size s 5 cl; have := HDz.out; simp only [List.length_append, ref.two, ref.four, List.length_cons, List.length_nil]; unfold maxLen; omega) HQ.out.size ?_)
                                    intro v10 w10 hv10 hg10 hb10
                                    have HQ := hid (HQ.out.of_grown hg10 (fun i hi => .inr (HV.out.lt i hi).1))
                                    have HV := hid hv10
                                    clear hv10 hg10 hb10
                                    go_wp2_with fail
                                    go_roundw
                                    case rel => exact ⟨k + 1, v10, rfl, by first | rfl | go_num, by omega, hid (by
                                      rw [HNX.out, ← List.append_assoc, HLl.out]
                                      unfold ansB hdB
                                      simp only
                                      have h9 := HV.out
                                      rw [← HDn.out, ← HDd.out] at h9
                                      simp only [List.append_assoc, ref.two, ref.four] at h9 ⊢
                                      exact h9), HQ⟩
                                    case measure => simp [RowKit.intOf]; omega
                                  · have h5b : (ty == 5) = false := by simpa using h5
                                    have HC5 := hid h5
                                    have HDd : Hid (datB ⟨s, ty, cl, ttl, rA, rn, rc, rd⟩ = rd) := hid (HDNo.out h5)
                                    have HDn : Hid (rd.length = rn) := hid HRdA.out.len
                                    have HDz : Hid (rn ≤ 65535) := hid hrn
                                    have HDc := hid (DR.of_old HD0.out.1.1 HBA.out HVA.out)
                                    have HZd := HrZ
                                    have HQc := HBA
                                    have HVc := HVA
                                    have CUc := OA
                                    clear HBA HVA OA
                                    go_wp2_with fail
                                    refine wp_region_noPanic ?_
                                    refine rgn.regionT (R := Same wr.heap.size) (by kernel_rfl) (Same.refl wr.heap.size) (Same.trans (g := wr.heap.size)) (fun _ _ _ _ _ h => h) (.y 0 (.y 1 (.y 4 (.y 5 (.y 6 (.e 2 (.e 3 (.e 7 (.e 8 (.e 9 .z)))))))))) (by kernel_rfl) (fun W hWd => ?_)
                                    have HWd := hid hWd; clear hWd
                                    have o9 := Only.eq_drew (Only.refl [] _) HWd.out
                                    have HQ := hid (HQc.out.trans o9)
                                    have HC := hid (CUc.out.only o9 (by simp))
                                    have HV := hid (HVc.out.only_nil o9)
                                    have HVD := hid (HDc.out.only_nil o9)
                                    have HC0 := HC
                                    clear HWd o9
                                    refine rgn.Walk.ys (v := ?_) rfl rfl rfl ?_ ?_
                                    rotate_left 1
                                    · intro W' hW'
                                      go_simp
                                      try with_reducible rfl
                                    try simp only [Act.put, List.setIfInBounds_toArray, List.set_cons_zero, List.set_cons_succ]
                                    refine rgn.Walk.ys (v := ?_) rfl rfl rfl ?_ ?_
                                    rotate_left 1
                                    · intro W' hW'
                                      have q0 := (HC0.out.same hW').cell 0
                                      have p1 := (HC0.out.same hW').cell 1
                                      have p2 := (HC0.out.same hW').cell 2
                                      have p3 := (HC0.out.same hW').cell 3
                                      have p4 := (HC0.out.same hW').cell 4
                                      go_simp
                                      try with_reducible rfl
                                    try simp only [Act.put, List.setIfInBounds_toArray, List.set_cons_zero, List.set_cons_succ]
                                    refine rgn.Walk.ys (v := ?_) rfl rfl rfl ?_ ?_
                                    rotate_left 1
                                    · intro W' hW'
                                      go_simp
                                      try with_reducible rfl
                                    try simp only [Act.put, List.setIfInBounds_toArray, List.set_cons_zero, List.set_cons_succ]
                                    refine rgn.Walk.ys (v := ?_) rfl rfl rfl ?_ ?_
                                    rotate_left 1
                                    · intro W' hW'
                                      have q0 := (HC0.out.same hW').cell 3
                                      go_simp
                                      try with_reducible rfl
                                    try simp only [Act.put, List.setIfInBounds_toArray, List.set_cons_zero, List.set_cons_succ]
                                    refine rgn.Walk.ys (v := ?_) rfl rfl rfl ?_ ?_
                                    rotate_left 1
                                    · intro W' hW'
                                      go_simp
                                      try with_reducible rfl
                                    try simp only [Act.put, List.setIfInBounds_toArray, List.set_cons_zero, List.set_cons_succ]
                                    refine rgn.Walk.es ?_
                                    refine rgn.stepE rfl rfl (fun K hK => ?_)
                                    go_simp
                                    refine (headD _ s ty cl ttl rA rn rc HSz.out).mono ?_
                                    rintro x w1 ⟨vh, rfl, ht1, o1⟩
                                    refine hK _ _ (Same.only o1 HC.out.lt) ?_
                                    clear hK K
                                    have HV := hid (HV.out.only_nil o1); have HVD := hid (HVD.out.only_nil o1)
                                    have HT0 := hid (ht1.mono_base HQ.out.size)
                                    have HQ := hid (HQ.out.trans o1); have HC := hid (HC.out.only o1 (by simp))
                                    clear ht1 o1
                                    obtain ⟨Ah, ch, rfl, hRh, hAh⟩ := own_form HT0.out
                                    have HT := hid hRh
                                    have HAh : Hid (Ah = none → ch = 0) := hid (fun e => by
                                      rcases hAh with ⟨_, h⟩ | ⟨b, o, h⟩
                                      · exact h
                                      · rw [h] at e; cases e)
                                    clear hRh hAh HT0
                                    try simp only [Act.put, List.setIfInBounds_toArray, List.set_cons_zero, List.set_cons_succ]
                                    refine rgn.Walk.es ?_
                                    refine rgn.stepE rfl rfl (fun K hK => ?_)
                                    refine opApp rfl (.tmp 216) (.tmp 218) _ rfl wrt.elemB W0.heap.size _ _ rfl HV.out Ah (hd s ty cl).length ch (hd s ty cl) rfl HT.out HAh.out (by have := HL.out; have := hd_size s ty cl; omega) (by have := HL.out; have := hd_size s ty cl; unfold maxLen; omega) HQ.out.size ?_
                                    intro vb2 wa2 hv2 hg2 hb2
                                    refine hK _ _ (Same.grown hg2 HC.out.lt (ob_own_ne (by decide) HC.out HV.out.1)) ?_
                                    clear hK K
                                    have HC := hid (HC.out.same (Same.grown hg2 HC.out.lt (ob_own_ne (by decide) HC.out HV.out.1)))
                                    have HVD := hid (HVD.out.grown hg2 hb2)
                                    have HQ := hid (HQ.out.of_grown hg2 (fun i hi => .inr (HV.out.lt i hi).1))
                                    have HV := hid hv2
                                    clear hv2 hg2 hb2 HT HAh
                                    try simp only [Act.put, List.setIfInBounds_toArray, List.set_cons_zero, List.set_cons_succ]
                                    refine rgn.Walk.es ?_
                                    refine rgn.stepE rfl rfl (fun K hK => ?_)
                                    go_simp
                                    refine (ref.four1 _ ttl).mono ?_
                                    rintro x w3 ⟨g3, rfl, ht3, o3⟩
                                    refine hK _ _ (Same.only o3 HC.out.lt) ?_
                                    clear hK K
                                    have HV := hid (HV.out.only_nil o3); have HVD := hid (HVD.out.only_nil o3)
                                    have HT := hid (ht3.mono_base HQ.out.size)
                                    have HQ := hid (HQ.out.trans o3); have HC := hid (HC.out.only o3 (by simp))
                                    clear ht3 o3
                                    try simp only [Act.put, List.setIfInBounds_toArray, List.set_cons_zero, List.set_cons_succ]
                                    refine rgn.Walk.es ?_
                                    refine rgn.stepE rfl rfl (fun K hK => ?_)
                                    refine opApp rfl (.tmp 219) (.tmp 223) _ rfl wrt.elemB W0.heap.size _ _ rfl HV.out (some ⟨g3, 0, none⟩) 4 4 (ref.four ttl) rfl HT.out.rd (by intro e; cases e) (by have := HL.out; have := hd_size s ty cl; rw [List.length_append]; omega) (by have := HL.out; have := hd_size s ty cl; rw [List.length_append]; unfold maxLen; omega) HQ.out.size ?_
                                    intro vb4 wa4 hv4 hg4 hb4
                                    refine hK _ _ (Same.grown hg4 HC.out.lt (ob_own_ne (by decide) HC.out HV.out.1)) ?_
                                    clear hK K
                                    have HC := hid (HC.out.same (Same.grown hg4 HC.out.lt (ob_own_ne (by decide) HC.out HV.out.1)))
                                    have HVD := hid (HVD.out.grown hg4 hb4)
                                    have HQ := hid (HQ.out.of_grown hg4 (fun i hi => .inr (HV.out.lt i hi).1))
                                    have HV := hid hv4
                                    clear hv4 hg4 hb4 HT
                                    try simp only [Act.put, List.setIfInBounds_toArray, List.set_cons_zero, List.set_cons_succ]
                                    refine rgn.Walk.es ?_
                                    refine rgn.stepE rfl rfl (fun K hK => ?_)
                                    go_simp
                                    refine hK _ _ ((Same.refl wr.heap.size) _) ?_
                                    clear hK K
                                    try simp only [Act.put, List.setIfInBounds_toArray, List.set_cons_zero, List.set_cons_succ]
                                    refine rgn.Walk.zs (NoPanic.normal ?_)
                                    go_wp2_with fail
                                    refine (ref.two1 _ rn).mono ?_
                                    rintro x w8 ⟨g8, rfl, h8, o8⟩
                                    have HV := hid (HV.out.only_nil o8); have HVD := hid (HVD.out.only_nil o8)
                                    have HT := hid (h8.mono_base HQ.out.size)
                                    have HQ := hid (HQ.out.trans o8)
                                    clear h8 o8
                                    go_wp2_with (at_builtin; refine wpList_app _ rfl (.tmp 225) (.tmp 228) _ rfl wrt.elemB W0.heap.size _ _ rfl HV.out (some ⟨g8, 0, none⟩) 2 2 (ref.two rn) rfl HT.out.rd (by intro e; cases e) (by have := HL.out; have := hd_size s ty cl; have := HDz.out; simp only [List.length_append, ref.two, ref.four, List.length_cons, List.length_nil]; omega) (by have := HL.out; have := hd_size s ty cl; have := HDz.out; simp only [List.length_append, ref.two, ref.four, List.length_cons, List.length_nil]; unfold maxLen; omega) HQ.out.size ?_)
                                    intro v9 w9 hv9 hg9 hb9
                                    have HVD := hid (HVD.out.grown hg9 hb9)
                                    have HQ := hid (HQ.out.of_grown hg9 (fun i hi => .inr (HV.out.lt i hi).1))
                                    have HV := hid hv9
                                    clear hv9 hg9 hb9 HT
                                    go_wp2_with (at_builtin; refine wpList_app _ rfl (.tmp 229) (.tmp 230) _ rfl wrt.elemB W0.heap.size _ _ rfl HV.out rA rn rc rd rfl HVD.out.1 HZd.out (by have := HL.out; have := hd_size s ty cl; have := HDz.out; simp only [List.length_append, ref.two, ref.four, List.length_cons, List.length_nil]; omega) (by have := HL.out; have := hd_size s ty cl; have := HDz.out; simp only [List.length_append, ref.two, ref.four, List.length_cons, List.length_nil]; unfold maxLen; omega) HQ.out.size ?_)
                                    intro v10 w10 hv10 hg10 hb10
                                    have HQ := hid (HQ.out.of_grown hg10 (fun i hi => .inr (HV.out.lt i hi).1))
                                    have HV := hid hv10
                                    clear hv10 hg10 hb10
                                    go_wp2_with fail
                                    go_roundw
                                    case rel => exact ⟨k + 1, v10, rfl, by first | rfl | go_num, by omega, hid (by
                                      rw [HNX.out, ← List.append_assoc, HLl.out]
                                      unfold ansB hdB
                                      simp only
                                      have h9 := HV.out
                                      rw [← HDn.out] at h9
                                      rw [HDd.out]
                                      simp only [List.append_assoc, ref.two, ref.four] at h9 ⊢
                                      exact h9), HQ⟩
                                    case measure => simp [RowKit.intOf]; omega
                                · have HVx : Hid (Own .u8 5 wr W0.heap.size v (encB id fl L1 L2)) := hid (by
                                    have := HV.out
                                    rw [flat_end (by rw [E2.out]; exact hlt), ← HP.out] at this
                                    unfold encB
                                    rw [E1.out, E2.out]
                                    exact this)
                                  have HQx : Hid (Only [] w wr) := hid (Q0.out.trans HB.out)
                                  clear HV HL
                                  go_wp2_with fail
                                  go_ret2
                                  exact ⟨_, 0, rfl, .inr (.inr (.inr (.inr ⟨rfl, HAG.out, HN2.out.1, HN2.out.2, HF.out, HG.out⟩))), by rw [if_pos rfl]; exact HVx.out.mono_base Q0.out.size, HQx.out⟩
end Go.Proofs.Ytfoecnlbiaiibaa.nam
