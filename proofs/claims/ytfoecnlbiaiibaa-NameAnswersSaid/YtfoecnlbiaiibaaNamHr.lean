/-
  Chapter 21 (name): the first error of a message that is to be written, by a walk of its text. Conditions: none but those typed.
-/
import Derived.Test.YtfoecnlbiaiibaaNamHq
import Derived.Test.YtfoecnlbiaiibaaNamHg
namespace Go.Proofs.Ytfoecnlbiaiibaa.nam
set_option linter.unusedVariables false
set_option linter.unusedSimpArgs false
open Go.ChangeShapes Go.WideShapes Go.ChangeAt Go.RowKit Go.IntWalk Go.Lib
def argOK (id fl : Int) (Q A : List Rc) : Prop := (0 ≤ id ∧ id ≤ 65535) ∧ (0 ≤ fl ∧ fl ≤ 65535) ∧ Q.length ≤ 64 ∧ A.length ≤ 64 ∧ (∀ r ∈ Q, inB r.ty r.cl r.ttl true) ∧ ∀ r ∈ A, inB r.ty r.cl r.ttl false
def nmOK (Q A : List Rc) : Prop := (∀ r ∈ Q, isNm r.s = true) ∧ ∀ r ∈ A, isNm r.s = true
/-- The first error of a message. -/
def Errs (e id fl : Int) (Q A : List Rc) : Prop := (e = 1 ∧ ¬ argOK id fl Q A) ∨ (e = 9 ∧ argOK id fl Q A ∧ ¬ (nmOK Q A ∧ cnOK A)) ∨ (e = 3 ∧ argOK id fl Q A ∧ nmOK Q A ∧ cnOK A ∧ ¬ frmOK A) ∨ (e = 5 ∧ argOK id fl Q A ∧ nmOK Q A ∧ cnOK A ∧ frmOK A ∧ ¬ lngOK A) ∨ (e = 0 ∧ argOK id fl Q A ∧ nmOK Q A ∧ cnOK A ∧ frmOK A ∧ lngOK A)
theorem Errs.one {e1 e2 id fl : Int} {Q A : List Rc} (h1 : Errs e1 id fl Q A) (h2 : Errs e2 id fl Q A) : e1 = e2 := by
  rcases h1 with ⟨rfl, a⟩ | ⟨rfl, a, b⟩ | ⟨rfl, a, b, c, d⟩ | ⟨rfl, a, b, c, d, f⟩ | ⟨rfl, a, b, c, d, f⟩ <;> rcases h2 with ⟨rfl, a'⟩ | ⟨rfl, a', b'⟩ | ⟨rfl, a', b', c', d'⟩ | ⟨rfl, a', b', c', d', f'⟩ | ⟨rfl, a', b', c', d', f'⟩ <;> first | rfl | (exfalso; exact a a') | (exfalso; exact a' a) | (exfalso; exact b ⟨b', c'⟩) | (exfalso; exact b' ⟨b, c⟩) | (exfalso; exact d d') | (exfalso; exact d' d) | (exfalso; exact f f') | (exfalso; exact f' f)
def ChkE (id fl : Int) (Q A : List Rc) (w : World) (x : Ending) (w' : World) : Prop := ∃ e, x = .returned (.int .i64 e) ∧ Errs e id fl Q A ∧ Only [] w w'
def tyOK (r : Rc) : Prop := (0 ≤ r.ty ∧ r.ty ≤ 65535) ∧ (0 ≤ r.cl ∧ r.cl ≤ 65535)
def ttlOK (r : Rc) : Prop := 0 ≤ r.ttl ∧ r.ttl ≤ 2147483647
theorem arg_of {id fl : Int} {Q A : List Rc} (h1 : 0 ≤ id ∧ id ≤ 65535) (h2 : 0 ≤ fl ∧ fl ≤ 65535) (h3 : Q.length ≤ 64) (h4 : A.length ≤ 64) (h5 : ∀ r ∈ Q ++ A, tyOK r) (h6 : ∀ r ∈ A, ttlOK r) : argOK id fl Q A :=
  ⟨h1, h2, h3, h4, fun r hr => ⟨(h5 r (List.mem_append_left _ hr)).1, (h5 r (List.mem_append_left _ hr)).2, fun h => by cases h⟩, fun r hr => ⟨(h5 r (List.mem_append_right _ hr)).1, (h5 r (List.mem_append_right _ hr)).2, fun _ => h6 r hr⟩⟩
theorem arg_ty {id fl : Int} {Q A : List Rc} (h : argOK id fl Q A) : ∀ r ∈ Q ++ A, tyOK r := fun r hr => by
  rcases List.mem_append.1 hr with h1 | h1
  · exact ⟨(h.2.2.2.2.1 r h1).1, (h.2.2.2.2.1 r h1).2.1⟩
  · exact ⟨(h.2.2.2.2.2 r h1).1, (h.2.2.2.2.2 r h1).2.1⟩
theorem arg_ttl {id fl : Int} {Q A : List Rc} (h : argOK id fl Q A) : ∀ r ∈ A, ttlOK r := fun r hr => (h.2.2.2.2.2 r hr).2.2 rfl
theorem errs_of {id fl : Int} {Q A : List Rc} {e : Int} (h : ErrsD e A) (h1 : argOK id fl Q A) (h2 : nmOK Q A) : Errs e id fl Q A := by
  rcases h with ⟨rfl, a⟩ | ⟨rfl, a, b⟩ | ⟨rfl, a, b, c⟩ | ⟨rfl, a, b, c⟩
  · exact .inr (.inl ⟨rfl, h1, fun h => a h.2⟩)
  · exact .inr (.inr (.inl ⟨rfl, h1, h2, a, b⟩))
  · exact .inr (.inr (.inr (.inl ⟨rfl, h1, h2, a, b, c⟩)))
  · exact .inr (.inr (.inr (.inr ⟨rfl, h1, h2, a, b, c⟩)))
set_option maxRecDepth 100000 in
set_option maxHeartbeats 8000000 in
theorem checkL (w : World) (id fl : Int) (A1 A2 : Option Addr) (n1 n2 c1 c2 : Nat) (L1 L2 : List Rc) (e1 : L1.length = n1) (e2 : L2.length = n2) (r1 : RowR w A1 L1) (r2 : RowR w A2 L2) (d1 : DatR w L1) (d2 : DatR w L2) (z1 : A1 = none → c1 = 0) (z2 : A2 = none → c2 = 0) (h12 : n1 + n2 ≤ 3000) :
    Calls Try.prog 30 #[.agg #[.int .i64 id, .int .i64 fl, .slice A1 n1 c1, .slice A2 n2 c2]] w (ChkE id fl L1 L2 w) := by
  have E1 := hid e1; have E2 := hid e2; have R1 := hid r1; have R2 := hid r2; have D1 := hid d1; have D2 := hid d2; have Z1 := hid z1; have Z2 := hid z2
  obtain ⟨W0, hW0⟩ : ∃ W0, w.alloc (.cells #[.int .i64 id, .int .i64 fl, .slice A1 n1 c1, .slice A2 n2 c2] 39) = W0 := ⟨_, rfl⟩
  have C0 : Hid (Ob W0 w.heap.size 39 #[.int .i64 id, .int .i64 fl, .slice A1 n1 c1, .slice A2 n2 c2]) := hid (by rw [← hW0]; exact Ob.new _ _ _)
  have Q0 : Hid (Only [] w W0) := hid (by rw [← hW0]; exact (Only.refl [] w).alloc _)
  have k2 := C0.out.cell 2
  have k3 := C0.out.cell 3
  obtain ⟨W1, hW1⟩ : ∃ W1, W0.alloc (.cells #[.slice A1 n1 c1, .slice A2 n2 c2] 37) = W1 := ⟨_, rfl⟩
  have C1 : Hid (Ob W1 W0.heap.size 37 #[.slice A1 n1 c1, .slice A2 n2 c2]) := hid (by rw [← hW1]; exact Ob.new _ _ _)
  have Q1 : Hid (Only [] W0 W1) := hid (by rw [← hW1]; exact (Only.refl [] W0).alloc _)
  clear e1 e2 r1 r2 d1 d2 z1 z2
  go_enter Try.func30, Try.ntmps30
  go_wp2_with fail
  refine (concat2 W1 W0.heap.size A1 A2 n1 n2 c1 c2 (rcs L1) (rcs L2) (C1.out.cell 0) (C1.out.cell 1) ?ra ?rb Z1.out Z2.out (by omega) (by omega)).mono ?_
  case ra => have := (R1.out.only_nil Q0.out).only_nil Q1.out; unfold RowR at this; rwa [E1.out] at this
  case rb => have := (R2.out.only_nil Q0.out).only_nil Q1.out; unfold RowR at this; rwa [E2.out] at this
  rintro x w2 ⟨v, rfl, hv, o2⟩
  have QA := hid ((Q0.out.trans Q1.out).trans o2)
  have one : ∀ u ∈ rcs L1 ++ rcs L2, u.oneCell' = true := fun u hu => by
    rcases List.mem_append.1 hu with h | h
    · exact RdS.one R1.out u h
    · exact RdS.one R2.out u h
  obtain ⟨nn, hnn⟩ : ∃ nn, n1 + n2 = nn := ⟨_, rfl⟩
  rw [hnn] at hv h12
  obtain ⟨A, c, rfl, hnc, hcm, hc0, hrd, hblk, hA⟩ := RdS.of_own hv one
  have RA : Hid (RowR w2 A (L1 ++ L2)) := hid (by unfold RowR; rw [List.length_append, E1.out, E2.out, rcs_app, hnn]; exact hrd)
  have DA : Hid (∀ r ∈ L1 ++ L2, r.s.size ≤ 140737488351232) := hid (fun r hr => by
    rcases List.mem_append.1 hr with h | h
    · exact (D1.out r h).2
    · exact (D2.out r h).2)
  have EA : Hid ((L1 ++ L2).length = nn) := hid (by rw [List.length_append, E1.out, E2.out, hnn])
  have g0 : w2.cell? ⟨w.heap.size, 0, none⟩ = some (.int .i64 id) := ((C0.out.only Q1.out (by simp)).only o2 (by simp)).cell 0
  have g1 : w2.cell? ⟨w.heap.size, 1, none⟩ = some (.int .i64 fl) := ((C0.out.only Q1.out (by simp)).only o2 (by simp)).cell 1
  have g2 : w2.cell? ⟨w.heap.size, 2, none⟩ = some (.slice A1 n1 c1) := ((C0.out.only Q1.out (by simp)).only o2 (by simp)).cell 2
  have g3 : w2.cell? ⟨w.heap.size, 3, none⟩ = some (.slice A2 n2 c2) := ((C0.out.only Q1.out (by simp)).only o2 (by simp)).cell 3
  have G3 := hid g3
  clear hv o2 one hc0 hrd hblk hA hnn hcm hW0 hW1 k2 k3
  go_wp2_with fail
  refine (isNumber1 w2 id).mono ?_
  rintro x w3 ⟨rfl, hw3⟩
  obtain rfl := hw3.symm
  by_cases a1 : 0 ≤ id ∧ id ≤ 65535
  case neg =>
    rw [decide_eq_false a1]
    have HA1 := hid a1; clear a1
    go_wp2_with fail
    go_ret
    exact ⟨1, rfl, .inl ⟨rfl, fun h => HA1.out h.1⟩, QA.out⟩
  rw [decide_eq_true a1]
  have HA1 := hid a1; clear a1
  go_wp2_with fail
  refine (isNumber1 w2 fl).mono ?_
  rintro x w3 ⟨rfl, hw3⟩
  obtain rfl := hw3.symm
  by_cases a2 : 0 ≤ fl ∧ fl ≤ 65535
  case neg =>
    rw [decide_eq_false a2]
    have HA2 := hid a2; clear a2
    go_wp2_with fail
    go_ret
    exact ⟨1, rfl, .inl ⟨rfl, fun h => HA2.out h.2.1⟩, QA.out⟩
  rw [decide_eq_true a2]
  have HA2 := hid a2; clear a2
  by_cases a3 : n1 ≤ 64
  case neg =>
    have a3b : (64 : Int) < (n1 : Int) := by omega
    go_wp2_with fail
    go_ret
    exact ⟨1, rfl, .inl ⟨rfl, fun h => a3 (by have := h.2.2.1; rw [E1.out] at this; exact this)⟩, QA.out⟩
  have a3b : ¬ (64 : Int) < (n1 : Int) := by omega
  by_cases a4 : n2 ≤ 64
  case neg =>
    have a4b : (64 : Int) < (n2 : Int) := by omega
    go_wp2_with fail
    go_ret
    exact ⟨1, rfl, .inl ⟨rfl, fun h => a4 (by have := h.2.2.2.1; rw [E2.out] at this; exact this)⟩, QA.out⟩
  have a4b : ¬ (64 : Int) < (n2 : Int) := by omega
  go_wp2_with fail
  clear g0 g1 g2 g3 a3b a4b
  go_loopw [42] (fun v wr => ∃ k : Nat, v = .int .i64 k ∧ k ≤ nn ∧ Hid (Only [] w2 wr) ∧ Hid (∀ r ∈ (L1 ++ L2).take k, tyOK r)) (fun v _ => nn - (RowKit.intOf v).toNat)
  case atStart => exact ⟨0, rfl, by omega, hid (Only.refl [] w2), hid (by simp)⟩
  case round =>
    obtain ⟨k, rfl, hk, HB, HT⟩ := hrel
    by_cases hlt : k < nn
    · have HK : Hid (k < (L1 ++ L2).length) := hid (by rw [EA.out]; exact hlt)
      have HNX := hid (fun h1 => all_next HK.out HT.out h1)
      have HBad : Hid (¬ tyOK ((L1 ++ L2).getD k rc0) → ¬ argOK id fl L1 L2) := hid (fun h1 h2 => h1 (arg_ty h2 _ (rc_mem _ k HK.out)))
      obtain ⟨b, off, rfl, hb, d0, d1, d2, d3, d4⟩ := (RA.out.only_nil HB.out).at k HK.out
      generalize (L1 ++ L2).getD k rc0 = r at *
      obtain ⟨s, ty, cl, ttl, rA, rn, rc, rd⟩ := r
      simp only at d0 d1 d2 d3 d4
      obtain ⟨WA, hWA⟩ : ∃ WA, wr.alloc (.cells #[.string s, .int .i64 ty, .int .i64 cl, .int .i64 ttl, .slice rA rn rc] 46) = WA := ⟨_, rfl⟩
      have HBA : Hid (Only [] w2 WA) := hid (by rw [← hWA]; exact HB.out.alloc _)
      have OA : Hid (Ob WA wr.heap.size 46 #[.string s, .int .i64 ty, .int .i64 cl, .int .i64 ttl, .slice rA rn rc]) := hid (by rw [← hWA]; exact Ob.new _ _ _)
      have m1 := OA.out.cell 1
      have m2 := OA.out.cell 2
      go_wp2_with fail
      refine (isNumber1 WA ty).mono ?_
      rintro x w3 ⟨rfl, hw3⟩
      obtain rfl := hw3.symm
      by_cases b1 : 0 ≤ ty ∧ ty ≤ 65535
      case neg =>
        rw [decide_eq_false b1]
        have HB1 := hid b1; clear b1
        go_wp2_with fail
        go_ret
        exact ⟨1, rfl, .inl ⟨rfl, HBad.out (fun h => HB1.out h.1)⟩, QA.out.trans HBA.out⟩
      rw [decide_eq_true b1]
      have HB1 := hid b1; clear b1
      go_wp2_with fail
      refine (isNumber1 _ cl).mono ?_
      rintro x w3 ⟨rfl, hw3⟩
      obtain rfl := hw3.symm
      by_cases b2 : 0 ≤ cl ∧ cl ≤ 65535
      case neg =>
        rw [decide_eq_false b2]
        have HB2 := hid b2; clear b2
        go_wp2_with fail
        go_ret
        exact ⟨1, rfl, .inl ⟨rfl, HBad.out (fun h => HB2.out h.2)⟩, QA.out.trans HBA.out⟩
      rw [decide_eq_true b2]
      have HB2 := hid b2; clear b2
      go_wp2_with fail
      go_roundw
      case rel => exact ⟨k + 1, by go_num, by omega, HBA, hid (HNX.out ⟨HB1.out, HB2.out⟩)⟩
      case measure => simp [RowKit.intOf]; omega
    · have HTY : Hid (∀ r ∈ L1 ++ L2, tyOK r) := hid (all_end (by rw [EA.out]; exact hlt) HT.out)
      obtain ⟨wz, hwz⟩ : ∃ wz, wz = wr := ⟨_, rfl⟩
      subst hwz
      have HBz := hid (QA.out.trans HB.out)
      have HRz := hid (RA.out.only_nil HB.out)
      have g3 := HB.out.keep G3.out
      have G3z := hid g3
      clear HB HT
      go_wp2_with fail
      clear hlt hk g3
      go_loopw [60] (fun v wr => ∃ k : Nat, v = .int .i64 k ∧ k ≤ n2 ∧ Hid (Only [] w wr) ∧ Hid (Only [] wz wr) ∧ Hid (∀ r ∈ L2.take k, ttlOK r)) (fun v _ => n2 - (RowKit.intOf v).toNat)
      case atStart => exact ⟨0, rfl, by omega, HBz, hid (Only.refl [] _), hid (by simp)⟩
      case round =>
        obtain ⟨k, rfl, hk, HB, HB2, HT⟩ := hrel
        by_cases hlt : k < n2
        · have HK : Hid (k < L2.length) := hid (by rw [E2.out]; exact hlt)
          have HNX := hid (fun h1 => all_next HK.out HT.out h1)
          have HBad : Hid (¬ ttlOK (L2.getD k rc0) → ¬ argOK id fl L1 L2) := hid (fun h1 h2 => h1 (arg_ttl h2 _ (rc_mem _ k HK.out)))
          obtain ⟨b, off, rfl, hb, d0, d1, d2, d3, d4⟩ := (R2.out.only_nil HB.out).at k HK.out
          generalize L2.getD k rc0 = r at *
          obtain ⟨s, ty, cl, ttl, rA, rn, rc, rd⟩ := r
          simp only at d0 d1 d2 d3 d4
          obtain ⟨WA, hWA⟩ : ∃ WA, wr.alloc (.cells #[.string s, .int .i64 ty, .int .i64 cl, .int .i64 ttl, .slice rA rn rc] 46) = WA := ⟨_, rfl⟩
          have HBA : Hid (Only [] w WA) := hid (by rw [← hWA]; exact HB.out.alloc _)
          have HBA2 : Hid (Only [] wz WA) := hid (by rw [← hWA]; exact HB2.out.alloc _)
          have OA : Hid (Ob WA wr.heap.size 46 #[.string s, .int .i64 ty, .int .i64 cl, .int .i64 ttl, .slice rA rn rc]) := hid (by rw [← hWA]; exact Ob.new _ _ _)
          have m3 := OA.out.cell 3
          by_cases b1 : ttl < 0
          · go_wp2_with fail
            go_ret
            exact ⟨1, rfl, .inl ⟨rfl, HBad.out (fun h => by have := h.1; simp only at this; omega)⟩, HBA.out⟩
          by_cases b2 : 2147483647 < ttl
          · go_wp2_with fail
            go_ret
            exact ⟨1, rfl, .inl ⟨rfl, HBad.out (fun h => by have := h.2; simp only at this; omega)⟩, HBA.out⟩
          go_wp2_with fail
          go_roundw
          case rel => exact ⟨k + 1, by go_num, by omega, HBA, HBA2, hid (HNX.out ⟨by show 0 ≤ ttl; omega, by show ttl ≤ 2147483647; omega⟩)⟩
          case measure => simp [RowKit.intOf]; omega
        · have HAG : Hid (argOK id fl L1 L2) := hid (arg_of HA1.out HA2.out (by rw [E1.out]; exact a3) (by rw [E2.out]; exact a4) HTY.out (all_end (by rw [E2.out]; exact hlt) HT.out))
          obtain ⟨wy, hwy⟩ : ∃ wy, wy = wr := ⟨_, rfl⟩
          subst hwy
          have HBy := HB
          have HRy := hid (HRz.out.only_nil HB2.out)
          have G3y := hid (HB2.out.keep G3z.out)
          clear HB HT HB2
          go_wp2_with fail
          clear hlt hk
          go_loopw [75, 10, 11] (fun v v10 v11 wr => ∃ k : Nat, v = .int .i64 k ∧ k ≤ nn ∧ Hid (Only [] w wr) ∧ Hid (Only [] wy wr) ∧ Hid (∀ r ∈ (L1 ++ L2).take k, isNm r.s = true)) (fun v _ _ _ => nn - (RowKit.intOf v).toNat)
          case atStart => exact ⟨0, rfl, by omega, HBy, hid (Only.refl [] _), hid (by simp)⟩
          case round =>
            obtain ⟨k, rfl, hk, HB, HB2, HT⟩ := hrel
            by_cases hlt : k < nn
            · have HK : Hid (k < (L1 ++ L2).length) := hid (by rw [EA.out]; exact hlt)
              have HNX := hid (fun h1 => all_next HK.out HT.out h1)
              have HBad : Hid (¬ isNm ((L1 ++ L2).getD k rc0).s = true → ¬ nmOK L1 L2) := hid (fun h1 h2 => h1 (by
                rcases List.mem_append.1 (rc_mem _ k HK.out) with h | h
                · exact h2.1 _ h
                · exact h2.2 _ h))
              have HSz0 := hid (DA.out _ (rc_mem _ k HK.out))
              obtain ⟨b, off, rfl, hb, d0, d1, d2, d3, d4⟩ := (HRy.out.only_nil HB2.out).at k HK.out
              generalize (L1 ++ L2).getD k rc0 = r at *
              obtain ⟨s, ty, cl, ttl, rA, rn, rc, rd⟩ := r
              simp only at d0 d1 d2 d3 d4
              have HSz : Hid (s.size ≤ maxLen) := hid (by have q : s.size ≤ 140737488351232 := HSz0.out; unfold maxLen; omega)
              obtain ⟨WA, hWA⟩ : ∃ WA, wr.alloc (.cells #[.string s, .int .i64 ty, .int .i64 cl, .int .i64 ttl, .slice rA rn rc] 46) = WA := ⟨_, rfl⟩
              have HBA : Hid (Only [] w WA) := hid (by rw [← hWA]; exact HB.out.alloc _)
              have HBA2 : Hid (Only [] wy WA) := hid (by rw [← hWA]; exact HB2.out.alloc _)
              have OA : Hid (Ob WA wr.heap.size 46 #[.string s, .int .i64 ty, .int .i64 cl, .int .i64 ttl, .slice rA rn rc]) := hid (by rw [← hWA]; exact Ob.new _ _ _)
              have m0 := OA.out.cell 0
              go_wp2_with fail
              refine (packL WA s HSz.out).mono ?_
              rintro x w4 ⟨v4, rfl, hv4, o4⟩
              have Q4 := hid (HBA.out.trans o4)
              have Q5 := hid (HBA2.out.trans o4)
              clear hv4 o4
              rw [packs_isNm]
              by_cases hnm : isNm s = true
              · rw [if_pos hnm]
                have HNm := hid hnm; clear hnm
                go_wp2_with fail
                go_roundw
                case rel => exact ⟨k + 1, by go_num, by omega, Q4, Q5, hid (HNX.out HNm.out)⟩
                case measure => simp [RowKit.intOf]; omega
              · rw [if_neg hnm]
                have HNm := hid hnm; clear hnm
                go_wp2_with fail
                go_ret
                exact ⟨9, rfl, .inr (.inl ⟨rfl, HAG.out, fun h => HBad.out HNm.out h.1⟩), Q4.out⟩
            · have HNA : Hid (nmOK L1 L2) := hid (by
                have h9 := all_end (by rw [EA.out]; exact hlt) HT.out
                exact ⟨fun r hr => h9 r (List.mem_append_left _ hr), fun r hr => h9 r (List.mem_append_right _ hr)⟩)
              have g3 : wr.cell? ⟨w.heap.size, 3, none⟩ = some (.slice A2 n2 c2) := HB2.out.keep G3y.out
              go_wp2_with fail
              refine (checkDataL wr A2 n2 c2 L2 E2.out (R2.out.only_nil HB.out) (D2.out.only_nil HB.out) (by omega)).mono ?_
              rintro x w5 ⟨e, rfl, he, o5⟩
              have HE := hid he
              have Q5 := hid (HB.out.trans o5)
              clear he o5
              go_wp2_with fail
              go_ret
              exact ⟨e, rfl, errs_of HE.out HAG.out HNA.out, Q5.out⟩
end Go.Proofs.Ytfoecnlbiaiibaa.nam
