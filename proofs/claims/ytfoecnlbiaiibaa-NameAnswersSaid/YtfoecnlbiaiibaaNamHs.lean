/-
  Chapter 21 (name): Encode of the code, by a walk of its text. Conditions: none but those typed.
-/
import Derived.Test.YtfoecnlbiaiibaaNamHr
namespace Go.Proofs.Ytfoecnlbiaiibaa.nam
set_option linter.unusedVariables false
set_option linter.unusedSimpArgs false
open Go.ChangeShapes Go.WideShapes Go.ChangeAt Go.RowKit Go.IntWalk Go.Lib
/-- Some numbers, of two bytes each. -/
def twos (l : List Int) : List Int := l.flatMap fun x => [x / 256 % 256, x % 256]
def hdB (r : Rc) : List Int := hd r.s r.ty r.cl
@[irreducible] def datB (r : Rc) : List Int := if r.ty = 5 then (packs r.d).1 else r.d
theorem datB_cn {r : Rc} (h : r.ty = 5) : datB r = (packs r.d).1 := by unfold datB; rw [if_pos h]
theorem datB_no {r : Rc} (h : ¬ r.ty = 5) : datB r = r.d := by unfold datB; rw [if_neg h]
/-- An answer's bytes. -/
def ansB (r : Rc) : List Int := hdB r ++ [r.ttl / 16777216 % 256, r.ttl / 65536 % 256, r.ttl / 256 % 256, r.ttl % 256] ++ [((datB r).length : Int) / 256 % 256, ((datB r).length : Int) % 256] ++ datB r
def heads (L : List Rc) : List Int := L.flatMap hdB
def answ (L : List Rc) : List Int := L.flatMap ansB
/-- P21.3: a message's bytes. -/
def encB (id fl : Int) (Q A : List Rc) : List Int := twos [id, fl, (Q.length : Int), (A.length : Int), 0, 0] ++ heads Q ++ answ A
theorem flat_next {f : Rc → List Int} {L : List Rc} {k : Nat} (hk : k < L.length) : (L.take (k + 1)).flatMap f = (L.take k).flatMap f ++ f (L.getD k rc0) := by
  rw [rc_take L k hk, List.flatMap_append]; simp
theorem flat_end {f : Rc → List Int} {L : List Rc} {k : Nat} (hk : ¬ k < L.length) : (L.take k).flatMap f = L.flatMap f := by rw [List.take_of_length_le (by omega)]
theorem flat_size {f : Rc → List Int} {L : List Rc} {m : Nat} (h : ∀ r ∈ L, (f r).length ≤ m) (k : Nat) : ((L.take k).flatMap f).length ≤ k * m := by
  induction k with
  | zero => simp
  | succ k ih =>
    by_cases hk : k < L.length
    · rw [flat_next hk, List.length_append, Nat.succ_mul]
      have := h _ (rc_mem L k hk)
      omega
    · rw [flat_end (by omega), ← flat_end (k := k) (by omega), Nat.succ_mul]; omega
theorem heads_size (L : List Rc) (k : Nat) : ((L.take k).flatMap hdB).length ≤ k * 20004 := flat_size (fun r _ => hd_size _ _ _) k
theorem datB_size {r : Rc} {w : World} (h : Rd .u8 w r.A r.n r.d) (h1 : r.n ≤ 65535) : (datB r).length ≤ 65535 := by
  by_cases h5 : r.ty = 5
  · rw [datB_cn h5]; have := packs_size r.d; omega
  · rw [datB_no h5, h.len]; exact h1
theorem ansB_size {r : Rc} {w : World} (h : Rd .u8 w r.A r.n r.d) (h1 : r.n ≤ 65535) : (ansB r).length ≤ 85545 := by
  have h2 := datB_size h h1
  have h3 : (hdB r).length ≤ 20004 := hd_size _ _ _
  unfold ansB
  simp only [List.length_append, List.length_cons, List.length_nil]
  omega
theorem answ_size {L : List Rc} {w : World} (h : DatR w L) (h1 : lngOK L) (k : Nat) : ((L.take k).flatMap ansB).length ≤ k * 85545 := flat_size (fun r hr => ansB_size (h r hr).1.1 (h1 r hr)) k
def EncE (id fl : Int) (Q A : List Rc) (w : World) (x : Ending) (w' : World) : Prop := ∃ v e, x = .returned (.tuple #[v, .int .i64 e]) ∧ Errs e id fl Q A ∧ Own .u8 5 w' w.heap.size v (if e = 0 then encB id fl Q A else []) ∧ Only [] w w'
set_option maxRecDepth 100000 in
set_option maxHeartbeats 8000000 in
theorem encodeL (w : World) (id fl : Int) (A1 A2 : Option Addr) (n1 n2 c1 c2 : Nat) (L1 L2 : List Rc) (e1 : L1.length = n1) (e2 : L2.length = n2) (r1 : RowR w A1 L1) (r2 : RowR w A2 L2) (d1 : DatR w L1) (d2 : DatR w L2) (z1 : A1 = none → c1 = 0) (z2 : A2 = none → c2 = 0) (h12 : n1 + n2 ≤ 3000) :
    Calls Try.prog 17 #[.agg #[.int .i64 id, .int .i64 fl, .slice A1 n1 c1, .slice A2 n2 c2]] w (EncE id fl L1 L2 w) := by
  obtain ⟨W0, hW0⟩ : ∃ W0, w.alloc (.cells #[.int .i64 id, .int .i64 fl, .slice A1 n1 c1, .slice A2 n2 c2] 39) = W0 := ⟨_, rfl⟩
  have C0 : Hid (Ob W0 w.heap.size 39 #[.int .i64 id, .int .i64 fl, .slice A1 n1 c1, .slice A2 n2 c2]) := hid (by rw [← hW0]; exact Ob.new _ _ _)
  have Q0 : Hid (Only [] w W0) := hid (by rw [← hW0]; exact (Only.refl [] w).alloc _)
  have HChk := hid (checkL W0 id fl A1 A2 n1 n2 c1 c2 L1 L2 e1 e2 (r1.only_nil Q0.out) (r2.only_nil Q0.out) (d1.only_nil Q0.out) (d2.only_nil Q0.out) z1 z2 h12)
  have k0 := C0.out.cell 0
  have k1 := C0.out.cell 1
  have k2 := C0.out.cell 2
  have k3 := C0.out.cell 3
  have E1 := hid e1; have E2 := hid e2
  have R1 := hid (r1.only_nil Q0.out); have R2 := hid (r2.only_nil Q0.out); have D1 := hid (d1.only_nil Q0.out); have D2 := hid (d2.only_nil Q0.out); have Z1 := hid z1; have Z2 := hid z2
  clear e1 e2 r1 r2 d1 d2 z1 z2
  go_enter Try.func17, Try.ntmps17
  go_wp2_with fail
  refine HChk.out.mono ?_
  rintro x w2 ⟨e, rfl, he, o2⟩
  clear HChk
  have HE := hid he
  have Q2 := hid (Q0.out.trans o2)
  have C2 := hid (C0.out.only o2 (by simp))
  have R12 := hid (R1.out.only_nil o2); have R22 := hid (R2.out.only_nil o2); have D12 := hid (D1.out.only_nil o2); have D22 := hid (D2.out.only_nil o2)
  have SZ0 : Hid (w.heap.size < w2.heap.size) := hid (C2.out.lt)
  clear he o2 R1 R2 D1 D2 k0 k1 k2 k3
  by_cases h0 : e = 0
  case neg =>
    have h0b : (e != 0) = true := by simpa using h0
    go_wp2_with fail
    go_ret2
    exact ⟨_, e, rfl, HE.out, by rw [if_neg h0]; exact Own.nil _ _ _ _, Q2.out⟩
  subst h0
  have HOK : Hid (argOK id fl L1 L2 ∧ nmOK L1 L2 ∧ cnOK L2 ∧ frmOK L2 ∧ lngOK L2) := hid (by
    rcases HE.out with ⟨h, _⟩ | ⟨h, _⟩ | ⟨h, _⟩ | ⟨h, _⟩ | ⟨_, h⟩
    · exact absurd h (by decide)
    · exact absurd h (by decide)
    · exact absurd h (by decide)
    · exact absurd h (by decide)
    · exact h)
  have hn1 : n1 ≤ 64 := by have := HOK.out.1.2.2.1; rw [E1.out] at this; exact this
  have hn2 : n2 ≤ 64 := by have := HOK.out.1.2.2.2.1; rw [E2.out] at this; exact this
  obtain ⟨W3, hW3⟩ : ∃ W3, w2.alloc (.cells #[.slice none 0 0] 53) = W3 := ⟨_, rfl⟩
  have B3 : Hid (Below w2.heap.size w2 W3) := hid (by rw [← hW3]; exact (Below.refl _ w2).alloc (Nat.le_refl _) _)
  have H3 : Hid (wrt.Wr W3 w2.heap.size w2.heap.size (.slice none 0 0) []) := hid ⟨by rw [← hW3]; exact Ob.new w2 _ _, Own.nil _ _ _ _, Nat.le_refl _⟩
  have k0 := (C2.out.below B3.out SZ0.out).cell 0
  have k1 := (C2.out.below B3.out SZ0.out).cell 1
  have k2 := (C2.out.below B3.out SZ0.out).cell 2
  have k3 := (C2.out.below B3.out SZ0.out).cell 3
  go_wp2_with fail
  clear k0 k1 k2 k3 hW3
  go_loopw [29, 7] (fun i v7 wr => ∃ (k : Nat) (v : Value), i = .int .i64 k ∧ k ≤ 6 ∧ Hid (wrt.Wr wr w2.heap.size w2.heap.size v (twos ([id, fl, (n1 : Int), (n2 : Int), 0, 0].take k))) ∧ Hid (Below w2.heap.size w2 wr)) (fun i _ _ => 6 - (RowKit.intOf i).toNat)
  case atStart => exact ⟨0, _, rfl, by omega, H3, B3⟩
  case round =>
    clear H3 B3
    obtain ⟨k, v, rfl, hk, HW, HB⟩ := hrel
    by_cases hlt : k < 6
    · obtain ⟨x, hx, hidx⟩ : ∃ x : Int, twos ([id, fl, (n1 : Int), (n2 : Int), 0, 0].take (k + 1)) = twos ([id, fl, (n1 : Int), (n2 : Int), 0, 0].take k) ++ [x / 256 % 256, x % 256] ∧ [id, fl, (n1 : Int), (n2 : Int), 0, 0][k]? = some x := by
        have : k = 0 ∨ k = 1 ∨ k = 2 ∨ k = 3 ∨ k = 4 ∨ k = 5 := by omega
        rcases this with rfl | rfl | rfl | rfl | rfl | rfl
        · exact ⟨id, rfl, rfl⟩
        · exact ⟨fl, rfl, rfl⟩
        · exact ⟨(n1 : Int), rfl, rfl⟩
        · exact ⟨(n2 : Int), rfl, rfl⟩
        · exact ⟨0, rfl, rfl⟩
        · exact ⟨0, rfl, rfl⟩
      have HX := hid hx
      have hli : (twos ([id, fl, (n1 : Int), (n2 : Int), 0, 0].take k)).length ≤ 12 := by
        have : k = 0 ∨ k = 1 ∨ k = 2 ∨ k = 3 ∨ k = 4 ∨ k = 5 := by omega
        rcases this with rfl | rfl | rfl | rfl | rfl | rfl <;> simp [twos]
      have HLi := hid hli
      clear hx hli
      have hix : ∀ W : World, (Instr.index 62 (.agg #[.int .i64 id, .int .i64 fl, .int .i64 n1, .int .i64 n2, .int .i64 0, .int .i64 0]) (.int .i64 (k : Int))).run Try.prog W = .ok (.int .i64 x) W := by
        intro W
        have : k = 0 ∨ k = 1 ∨ k = 2 ∨ k = 3 ∨ k = 4 ∨ k = 5 := by omega
        rcases this with rfl | rfl | rfl | rfl | rfl | rfl <;> (simp at hidx; subst hidx; first | rfl | go_simp)
      clear hidx
      go_wp2_with fail
      refine (two2 wr w2.heap.size w2.heap.size v _ x HW.out (by have := HLi.out; omega)).mono ?_
      rintro y w4 ⟨rfl, b4, v4, hw4, o4⟩
      rw [← HX.out] at hw4
      have HW4 := hid hw4
      have HB4 := hid (HB.out.trans b4)
      clear hw4 b4 o4 HX HW HLi
      go_wp2_with fail
      go_roundw
      case rel => exact ⟨k + 1, v4, by go_num, by omega, HW4, HB4⟩
      case measure => simp [RowKit.intOf]; omega
    · have HK6 : Hid (k = 6) := hid (by omega)
      obtain ⟨wz, hwz⟩ : ∃ wz, wz = wr := ⟨_, rfl⟩
      subst hwz
      have HWz : Hid (wrt.Wr wz w2.heap.size w2.heap.size v (twos [id, fl, (n1 : Int), (n2 : Int), 0, 0])) := hid (by have h9 := HW.out; rw [HK6.out] at h9; exact h9)
      have HBz := HB
      have k2 := (C2.out.below HB.out SZ0.out).cell 2
      clear HW HB
      go_wp2_with fail
      clear hlt hk k2
      go_loopw [38] (fun i wr => ∃ (k : Nat) (v : Value), i = .int .i64 k ∧ k ≤ n1 ∧ Hid (wrt.Wr wr w2.heap.size w2.heap.size v (twos [id, fl, (n1 : Int), (n2 : Int), 0, 0] ++ (L1.take k).flatMap hdB)) ∧ Hid (Below w2.heap.size w2 wr)) (fun i _ => n1 - (RowKit.intOf i).toNat)
      case atStart => exact ⟨0, v, rfl, by omega, hid (by simpa using HWz.out), HBz⟩
      case round =>
        clear HWz HBz v
        obtain ⟨k, v, rfl, hk, HW, HB⟩ := hrel
        have HL : Hid ((twos [id, fl, (n1 : Int), (n2 : Int), 0, 0] ++ (L1.take k).flatMap hdB).length ≤ 1280300) := hid (by
          have := heads_size L1 k
          rw [List.length_append]
          show 12 + _ ≤ _
          omega)
        by_cases hlt : k < n1
        · have HK : Hid (k < L1.length) := hid (by rw [E1.out]; exact hlt)
          have HNX := hid (flat_next (f := hdB) HK.out)
          have HSz0 := hid (D12.out _ (rc_mem _ k HK.out)).2
          obtain ⟨b, off, rfl, hb, d0, d1, d2, d3, d4⟩ := (R12.out.below HB.out (Nat.le_refl _)).at k HK.out
          generalize L1.getD k rc0 = r at *
          obtain ⟨s, ty, cl, ttl, rA, rn, rc, rd⟩ := r
          simp only at d0 d1 d2 d3 d4
          have HSz : Hid (s.size ≤ maxLen) := hid (by have q : s.size ≤ 140737488351232 := HSz0; unfold maxLen; omega)
          obtain ⟨WA, hWA⟩ : ∃ WA, wr.alloc (.cells #[.string s, .int .i64 ty, .int .i64 cl, .int .i64 ttl, .slice rA rn rc] 46) = WA := ⟨_, rfl⟩
          have oA : Only [] wr WA := by rw [← hWA]; exact (Only.refl [] wr).alloc _
          have HBA : Hid (Below w2.heap.size w2 WA) := hid (Only.below HB.out oA HB.out.size (by simp))
          have HWA : Hid (wrt.Wr WA w2.heap.size w2.heap.size v (twos [id, fl, (n1 : Int), (n2 : Int), 0, 0] ++ (L1.take k).flatMap hdB)) := hid (HW.out.only_nil oA)
          have OA : Hid (Ob WA wr.heap.size 46 #[.string s, .int .i64 ty, .int .i64 cl, .int .i64 ttl, .slice rA rn rc]) := hid (by rw [← hWA]; exact Ob.new _ _ _)
          have m0 := OA.out.cell 0
          have m1 := OA.out.cell 1
          have m2 := OA.out.cell 2
          have m3 := OA.out.cell 3
          have m4 := OA.out.cell 4
          clear oA HSz0
          go_wp2_with fail
          refine (headK WA w2.heap.size w2.heap.size v _ s ty cl ttl rA rn rc HWA.out (by have := HL.out; omega) HSz.out).mono ?_
          rintro x w4 ⟨rfl, b4, ⟨v4, h4⟩, k4⟩
          have HB4 := hid (HBA.out.trans b4)
          have HW4 := hid h4
          clear b4 h4 k4 m0 m1 m2 m3 m4
          go_wp2_with fail
          go_roundw
          case rel => exact ⟨k + 1, v4, by go_num, by omega, hid (by rw [HNX.out, ← List.append_assoc]; exact HW4.out), HB4⟩
          case measure => simp [RowKit.intOf]; omega
        · have HWy : Hid (wrt.Wr wr w2.heap.size w2.heap.size v (twos [id, fl, (n1 : Int), (n2 : Int), 0, 0] ++ heads L1)) := hid (by have := HW.out; rwa [flat_end (by rw [E1.out]; exact hlt)] at this)
          obtain ⟨wy, hwy⟩ : ∃ wy, wy = wr := ⟨_, rfl⟩
          subst hwy
          have HBy := HB
          obtain ⟨P, hP⟩ : ∃ P, twos [id, fl, (n1 : Int), (n2 : Int), 0, 0] ++ heads L1 = P := ⟨_, rfl⟩
          have HPs : Hid (P.length ≤ 1280300) := hid (by
            have := HL.out
            rw [flat_end (by rw [E1.out]; exact hlt)] at this
            rw [← hP]; exact this)
          have HP := hid hP
          rw [hP] at HWy
          have k3 := (C2.out.below HB.out SZ0.out).cell 3
          clear HW HB HL hP
          go_wp2_with fail
          clear hlt hk k3
          go_loopw [48, 12] (fun i v12 wr => ∃ (k : Nat) (v : Value), i = .int .i64 k ∧ k ≤ n2 ∧ Hid (wrt.Wr wr w2.heap.size w2.heap.size v (P ++ (L2.take k).flatMap ansB)) ∧ Hid (Below w2.heap.size w2 wr)) (fun i _ _ => n2 - (RowKit.intOf i).toNat)
          case atStart => exact ⟨0, v, rfl, by omega, hid (by simpa using HWy.out), HBy⟩
          case round =>
            clear HWy HBy v
            obtain ⟨k, v, rfl, hk, HW, HB⟩ := hrel
            have HL : Hid ((P ++ (L2.take k).flatMap ansB).length ≤ 6800000) := hid (by
              have := answ_size D22.out HOK.out.2.2.2.2 k
              have := HPs.out
              rw [List.length_append]
              omega)
            by_cases hlt : k < n2
            · have HK : Hid (k < L2.length) := hid (by rw [E2.out]; exact hlt)
              have HNX := hid (flat_next (f := ansB) HK.out)
              have HD0 := hid (D22.out _ (rc_mem _ k HK.out))
              have HN0 := hid (HOK.out.2.2.2.2 _ (rc_mem _ k HK.out))
              have HT0 := hid (arg_ttl HOK.out.1 _ (rc_mem _ k HK.out))
              have HDsz := hid (datB_size HD0.out.1.1 HN0.out)
              have HDCn := hid (fun h => datB_cn (r := L2.getD k rc0) h)
              have HDNo := hid (fun h => datB_no (r := L2.getD k rc0) h)
              obtain ⟨b, off, rfl, hb, d0, d1, d2, d3, d4⟩ := (R22.out.below HB.out (Nat.le_refl _)).at k HK.out
              generalize L2.getD k rc0 = r at *
              obtain ⟨s, ty, cl, ttl, rA, rn, rc, rd⟩ := r
              simp only at d0 d1 d2 d3 d4
              have HSz : Hid (s.size ≤ maxLen) := hid (by have q : s.size ≤ 140737488351232 := HD0.out.2; unfold maxLen; omega)
              have hu : IntKind.u32.wrap ttl = ttl := by have h1 : 0 ≤ ttl := HT0.out.1; have h2 : ttl ≤ 2147483647 := HT0.out.2; rw [IntKind.wrap_u32]; omega
              have hrn : rn ≤ 65535 := HN0.out
              obtain ⟨WA, hWA⟩ : ∃ WA, wr.alloc (.cells #[.string s, .int .i64 ty, .int .i64 cl, .int .i64 ttl, .slice rA rn rc] 46) = WA := ⟨_, rfl⟩
              have oA : Only [] wr WA := by rw [← hWA]; exact (Only.refl [] wr).alloc _
              have HBA : Hid (Below w2.heap.size w2 WA) := hid (Only.below HB.out oA HB.out.size (by simp))
              have HWA : Hid (wrt.Wr WA w2.heap.size w2.heap.size v (P ++ (L2.take k).flatMap ansB)) := hid (HW.out.only_nil oA)
              have hne : wr.heap.size ≠ w2.heap.size := Nat.ne_of_gt HW.out.ob.lt
              have HNe := hid hne
              have OA : Hid (Ob WA wr.heap.size 46 #[.string s, .int .i64 ty, .int .i64 cl, .int .i64 ttl, .slice rA rn rc]) := hid (by rw [← hWA]; exact Ob.new _ _ _)
              have m0 := OA.out.cell 0
              have m1 := OA.out.cell 1
              have m2 := OA.out.cell 2
              have m3 := OA.out.cell 3
              have m4 := OA.out.cell 4
              obtain ⟨l, hl⟩ : ∃ l, P ++ (L2.take k).flatMap ansB = l := ⟨_, rfl⟩
              rw [hl] at HWA HL
              have HLl := hid hl
              clear oA hne hl HW
              go_wp2_with fail
              refine (headK WA w2.heap.size w2.heap.size v l s ty cl ttl rA rn rc HWA.out (by have := HL.out; omega) HSz.out).mono ?_
              rintro x w4 ⟨rfl, b4, ⟨v4, h4⟩, k4⟩
              have HB4 := hid (HBA.out.trans b4)
              have HW4 := hid h4
              have O4 := hid (k4 _ _ _ (by decide) HNe.out OA.out)
              clear b4 h4 k4 m0 m1 m2 m3 m4 HWA HBA OA hWA
              have m3 := O4.out.cell 3
              have hz4 : (l ++ hd s ty cl).length ≤ 6900000 := by have h1 := HL.out; have h2 := hd_size s ty cl; rw [List.length_append]; omega
              have HZ4 := hid hz4; clear hz4
              go_wp2_with fail
              refine (four2 w4 w2.heap.size w2.heap.size v4 (l ++ hd s ty cl) ttl HW4.out (by have := HZ4.out; omega)).mono ?_
              rintro x w5 ⟨rfl, b5, v5, h5, o5⟩
              have HB5 := hid (HB4.out.trans b5)
              have HW5 := hid h5
              have O5 := hid (Kp.of_wr HW4.out o5 _ _ _ (by decide) HNe.out O4.out)
              have HZ5 : Hid ((l ++ hd s ty cl ++ [ttl / 16777216 % 256, ttl / 65536 % 256, ttl / 256 % 256, ttl % 256]).length ≤ 6900004) := hid (by have := HZ4.out; rw [List.length_append]; show (l ++ hd s ty cl).length + 4 ≤ _; omega)
              obtain ⟨l5, hl5⟩ : ∃ l5, l ++ hd s ty cl ++ [ttl / 16777216 % 256, ttl / 65536 % 256, ttl / 256 % 256, ttl % 256] = l5 := ⟨_, rfl⟩
              rw [hl5] at HW5 HZ5
              have HL5 := hid hl5
              clear b5 h5 o5 HB4 HW4 O4 m3 HZ4 hl5
              have m1 := O5.out.cell 1
              have m4 := O5.out.cell 4
              have HRd5 := hid ((D22.out.below HB5.out (Nat.le_refl _)))
              have HRdr : Hid (Rd .u8 w5 rA rn rd) := hid (HD0.out.1.1.below HB5.out (Nat.le_refl _))
              have HrZ : Hid (rA = none → rc = 0) := hid HD0.out.1.2.1
              by_cases h5 : ty = 5
              · subst h5
                have hcv := convAny w5 rA rn rc rd HRdr.out
                have hch : chs (strOfNums rd) = rd := chs_nums rd (rd_bd HRdr.out)
                have HCh := hid hch; clear hch
                have HSd : Hid ((strOfNums rd).size ≤ maxLen) := hid (by have q1 : rd.length = rn := HRdr.out.len; rw [strOf_size, q1]; unfold maxLen; omega)
                go_wp2_with fail
                refine (packL w5 (strOfNums rd) HSd.out).mono ?_
                rw [HCh.out]
                rintro x w6 ⟨v6, rfl, hv6, o6⟩
                have hdd : datB ⟨s, 5, cl, ttl, rA, rn, rc, rd⟩ = (packs rd).1 := HDCn.out (by first | trivial | rfl | simp)
                have HDD := hid hdd
                rw [← HDD.out] at hv6
                have HV6 := hid hv6
                have HB6 := hid (Only.below HB5.out o6 HB5.out.size (by simp))
                have HW6 := hid (HW5.out.only_nil o6)
                have HSz6 : Hid (w2.heap.size < w5.heap.size) := hid (HW5.out.ob.lt)
                have HW5L : Hid (∀ q, v5.ownBlock = some q → q < w5.heap.size) := hid (fun q hq => (HW5.out.own.lt q hq).2)
                obtain ⟨p2, hp2⟩ : ∃ p2, (packs rd).2 = p2 := ⟨_, rfl⟩
                rw [hp2]
                clear hv6 o6 hdd m1 m4 hcv hp2 HB5 HW5
                obtain ⟨d, hd0⟩ : ∃ d, datB ⟨s, 5, cl, ttl, rA, rn, rc, rd⟩ = d := ⟨_, rfl⟩
                have HDd := hid hd0
                rw [hd0] at HV6
                have HDz : Hid (d.length ≤ 65535) := hid (by rw [← hd0]; exact HDsz.out)
                clear hd0
                obtain ⟨A6, c6, rfl, hnc6, hcm6, _, _⟩ := HV6.out.slice
                obtain ⟨dn, hdn⟩ : ∃ dn, d.length = dn := ⟨_, rfl⟩
                have HDn := hid hdn
                rw [hdn] at HV6 HDz
                rw [hdn]
                clear hdn hnc6 hcm6
                go_wp2_with fail
                refine (two2 w6 w2.heap.size w2.heap.size v5 l5 dn HW6.out (by have := HZ5.out; omega)).mono ?_
                rintro x w7 ⟨rfl, b7, v7, h7, o7⟩
                have HB7 := hid (HB6.out.trans b7)
                have HW7 := hid h7
                have HV7 := hid (HV6.out.only o7 (fun q hq hm => by
                  have h9 := (HV6.out.lt q hq).1
                  rcases List.mem_cons.1 hm with h8 | h8
                  · have := HW6.out.ob.lt; have := HSz6.out; omega
                  · have h7 := (HW5L.out q (by simpa using h8)); omega))
                have HZ7 : Hid ((l5 ++ [(dn : Int) / 256 % 256, (dn : Int) % 256]).length ≤ 6900006) := hid (by have := HZ5.out; rw [List.length_append]; show l5.length + 2 ≤ _; omega)
                clear b7 h7 o7 HB6 HW6 HV6 HZ5
                go_wp2_with fail
                refine (wrt.raw1 w7 w2.heap.size w2.heap.size v7 _ A6 dn c6 d HW7.out (by have := HZ7.out; omega) ?rd7 ?rc7 (by have := HDz.out; omega)).mono ?_
                case rd7 => have h9 := HV7.out.rd; exact h9
                case rc7 => exact own_notNil HV7.out rfl
                rintro x w8 ⟨rfl, b8, v8, h8⟩
                have HB8 := hid (HB7.out.trans b8)
                have HW8 := hid h8
                clear b8 h8 HB7 HW7 HV7
                go_wp2_with fail
                go_roundw
                case rel => exact ⟨k + 1, v8, by go_num, by omega, hid (by
                  rw [HNX.out, ← List.append_assoc, HLl.out]
                  unfold ansB hdB
                  simp only
                  have h9 := HW8.out
                  rw [← HL5.out, ← HDn.out, ← HDd.out] at h9
                  rw [← List.append_assoc, ← List.append_assoc, ← List.append_assoc]
                  exact h9), HB8⟩
                case measure => simp [RowKit.intOf]; omega
              · have h5b : (ty == 5) = false := by simpa using h5
                have hdd : datB ⟨s, ty, cl, ttl, rA, rn, rc, rd⟩ = rd := HDNo.out h5
                have HDd := hid hdd
                have HRl : Hid (rd.length = rn) := hid HRdr.out.len
                clear hdd
                go_wp2_with fail
                refine (two2 w5 w2.heap.size w2.heap.size v5 l5 rn HW5.out (by have := HZ5.out; omega)).mono ?_
                rintro x w7 ⟨rfl, b7, v7, h7, o7⟩
                have HB7 := hid (HB5.out.trans b7)
                have HW7 := hid h7
                have HR7 := hid (HD0.out.1.1.below HB7.out (Nat.le_refl _))
                have HZ7 : Hid ((l5 ++ [(rn : Int) / 256 % 256, (rn : Int) % 256]).length ≤ 6900006) := hid (by have := HZ5.out; rw [List.length_append]; show l5.length + 2 ≤ _; omega)
                clear b7 h7 o7 HB5 HW5 HZ5
                go_wp2_with fail
                refine (wrt.raw1 w7 w2.heap.size w2.heap.size v7 _ rA rn rc rd HW7.out (by have := HZ7.out; omega) HR7.out HrZ.out (by omega)).mono ?_
                rintro x w8 ⟨rfl, b8, v8, h8⟩
                have HB8 := hid (HB7.out.trans b8)
                have HW8 := hid h8
                clear b8 h8 HB7 HW7
                go_wp2_with fail
                go_roundw
                case rel => exact ⟨k + 1, v8, by go_num, by omega, hid (by
                  rw [HNX.out, ← List.append_assoc, HLl.out]
                  unfold ansB hdB
                  simp only
                  rw [HDd.out]
                  have h9 := HW8.out
                  rw [← HL5.out, ← HRl.out] at h9
                  rw [← List.append_assoc, ← List.append_assoc, ← List.append_assoc]
                  exact h9), HB8⟩
                case measure => simp [RowKit.intOf]; omega
            · have HWx : Hid (wrt.Wr wr w2.heap.size w2.heap.size v (encB id fl L1 L2)) := hid (by
                have := HW.out
                rw [flat_end (by rw [E2.out]; exact hlt), ← HP.out] at this
                unfold encB
                rw [E1.out, E2.out]
                exact this)
              have HLx : Hid ((encB id fl L1 L2).length ≤ 6800000) := hid (by
                have := HL.out
                rw [flat_end (by rw [E2.out]; exact hlt), ← HP.out] at this
                unfold encB
                rw [E1.out, E2.out]
                exact this)
              clear HW HL
              go_wp2_with fail
              refine (wrt.bytes1 wr w2.heap.size w2.heap.size v (encB id fl L1 L2) HWx.out (by have := HLx.out; omega)).mono ?_
              rintro x w8 ⟨v8, rfl, h8, o8⟩
              have HV8 := hid h8
              have HB8 := hid (Only.below HB.out o8 HB.out.size (by simp))
              have HQ8 : Hid (Only [] w w8) := hid (only_below' Q2.out HB8.out Q2.out.size)
              have HSz8 : Hid (w.heap.size ≤ wr.heap.size) := hid (Nat.le_trans Q2.out.size HB.out.size)
              clear h8 o8
              go_wp2_with fail
              go_ret2
              exact ⟨v8, 0, rfl, HE.out, by rw [if_pos rfl]; exact HV8.out.mono_base HSz8.out, HQ8.out⟩
end Go.Proofs.Ytfoecnlbiaiibaa.nam
