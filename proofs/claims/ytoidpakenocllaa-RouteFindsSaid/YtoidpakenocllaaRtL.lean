/-
  Chapter 8 (route): the law RouteFinds, by a walk of its text. Conditions: none but those typed.
-/
import Derived.Test.YtoidpakenocllaaRtK
import Derived.Test.YtoidpakenocllaaRtJ
namespace Go.Proofs.Ytoidpakenocllaa.rou
set_option linter.unusedVariables false
set_option linter.unusedSimpArgs false
open Go.ChangeShapes Go.WideShapes Go.ChangeAt Go.RowKit Go.IntWalk Go.Lib
/-- How many of the first n fit. -/
def nf (D : List Rt) (a : Int) (n : Nat) : Nat := (D.take n).countP fun r => decide (Fts r a)
theorem nf_succ {D : List Rt} {a : Int} {n : Nat} (h : n < D.length) : nf D a (n + 1) = nf D a n + if Fts D[n] a then 1 else 0 := by
  unfold nf
  rw [List.take_succ_eq_append_getElem h, List.countP_append]
  by_cases hf : Fts D[n] a <;> simp [hf]
theorem nf_le (D : List Rt) (a : Int) (n : Nat) : nf D a n ≤ D.length := Nat.le_trans List.countP_le_length (by rw [List.length_take]; omega)
theorem nf_pos {D : List Rt} {a : Int} {r : Rt} (h : r ∈ D) (hf : Fts r a) : 0 < nf D a D.length := by
  unfold nf
  rw [List.take_length, List.countP_pos_iff]
  exact ⟨r, h, by simpa using hf⟩
theorem nf_zero {D : List Rt} {a : Int} (h : ∀ y ∈ D, ¬ Fts y a) (n : Nat) : nf D a n = 0 := by
  unfold nf
  rw [List.countP_eq_zero]
  intro x hx
  simpa using h x (List.mem_of_mem_take hx)
theorem fts_net {x y : Rt} {a : Int} (hx : x.ok) (hy : y.ok) (fx : Fts x a) (fy : Fts y a) (hb : x.bits = y.bits) : x.net = y.net := by
  have e1 := hx.nt; have e2 := hy.nt
  unfold Fts at fx fy
  rw [← fx] at e1; rw [← fy, ← hb] at e2
  rw [e1, e2]
set_option maxRecDepth 100000 in
set_option maxHeartbeats 8000000 in
theorem finds (w : World) (A : Option Addr) (len c : Nat) (V0 V1 V2 V3 : Nat → Int) (h : OplRt w A len V0 V1 V2 V3) (a : Int) (ha : 0 ≤ a ∧ a ≤ 4294967295) : Calls Try.prog 4 #[.slice A len c, .int .u32 a] w (fun e w' => e = .returned (.bool true) ∧ Only [] w w') := by
  have HA := hid h; clear h
  have HGL : Hid (w.heap.size ≤ w.heap.size) := hid (Nat.le_refl _)
  by_cases h200 : 200 < len
  · have Q : Hid (Only [] w w) := hid (Only.refl _ _)
    go_enter Try.func4, Try.ntmps4
    go_wp2_with fail
    refine (known1 w).mono ?_
    rintro x w1 ⟨rfl, o1⟩
    replace Q := hid (Q.out.trans o1); clear o1
    go_wp2_with fail
    go_ret
    exact ⟨rfl, Q.out⟩
  · obtain ⟨W1, hW1⟩ : ∃ W1, w.alloc (.cells #[.pointer none, .int .i64 0] 26) = W1 := ⟨_, rfl⟩
    have H0 : Hid (TV W1 w.heap.size w.heap.size .nil []) := hid (by rw [← hW1]; exact TV.new w _)
    have Q1 : Hid (Only [] w W1) := hid (by rw [← hW1]; exact (Only.refl [] w).alloc _)
    go_enter Try.func4, Try.ntmps4
    go_wp2_with fail
    go_loopw [6] (fun i wr => ∃ k : Nat, k ≤ len ∧ i = .int .i64 k ∧ Hid (∃ t D, TV wr w.heap.size w.heap.size t D) ∧ Hid (Only [] w wr)) (fun i _ => len - (RowKit.intOf i).toNat)
    case atStart => exact ⟨0, by omega, rfl, hid ⟨_, _, H0.out⟩, Q1⟩
    case round =>
      clear H0 Q1
      obtain ⟨k, hk, rfl, HT, Q⟩ := hrel
      obtain ⟨t, D, ht⟩ := HT.out
      have H := hid ht; clear ht HT
      by_cases hlt : k < len
      · obtain ⟨b, off, rfl, hb, hc⟩ := (HA.out.only_nil Q.out).cells (by omega)
        obtain ⟨q0, q1, q2, q3⟩ := hc k hlt
        have hwf := (HA.out.rd k hlt).1
        clear hc
        generalize V0 k = a0 at *
        generalize V1 k = a1 at *
        generalize V2 k = a2 at *
        generalize V3 k = a3 at *
        have HB := hid (u32Bd hwf); clear hwf
        go_wp2_with fail
        clear q0 q1 q2 q3
        refine (addT wr w.heap.size w.heap.size t D ⟨a0, a1, a2, a3⟩ H.out (Nat.le_of_lt H.out.ob.lt) HB.out).mono ?_
        rintro x w1 ⟨e1, D1, t1, rfl, a1, s1⟩
        replace Q := hid (s1.quiet H.out (Nat.le_refl _) Q.out HGL.out)
        replace H := hid s1.tv; clear s1
        have HT : Hid (∃ t D, TV w1 w.heap.size w.heap.size t D) := hid ⟨_, _, H.out⟩
        clear H
        go_wp2_with fail
        go_roundw
        case rel => exact ⟨k + 1, by omega, by first | rfl | go_num, HT, Q⟩
        case measure => simp [RowKit.intOf]; omega
      · go_wp2_with fail
        clear hlt hk
        refine (finT wr w.heap.size w.heap.size t D a H.out ha).mono ?_
        rintro x w1 ⟨⟨v, e, rfl, hf⟩, o1⟩
        have HF := hid hf
        replace H := hid (H.out.nil o1); replace Q := hid (Q.out.trans o1)
        clear o1
        rcases hf with ⟨rfl, rfl, hno⟩ | ⟨r, rfl, rfl, hin, hfr, hmin⟩
        · have HNO := hid hno; clear hno HF
          have OR0 : Hid (Ob (w1.alloc (.cells #[.int .u32 0, .int .i64 0, .int .u32 0, .int .i64 0] 34)) w1.heap.size 34 #[.int .u32 0, .int .i64 0, .int .u32 0, .int .i64 0]) := hid (Ob.new _ _ _)
          have o0 : Hid (Only [] w1 (w1.alloc (.cells #[.int .u32 0, .int .i64 0, .int .u32 0, .int .i64 0] 34))) := hid ((Only.refl [] w1).alloc _)
          go_wp2_with (refine wp_storeOb rfl 34 _ _ rfl _ _ rfl rfl _ _ OR0.out rfl (by kernel_rfl) (by simp [Value.oneCell']) (fun W2 hW2 => ?_); try simp only [Act.put, List.setIfInBounds_toArray, List.set_cons_zero, List.set_cons_succ]; have OR := hid (OR0.out.eq_all hW2 rfl); have o2 := hid (o0.out.eq_all hW2 (Or.inr (Nat.le_refl _))); clear hW2)
          replace H := hid (H.out.nil o2.out); replace Q := hid (Q.out.trans o2.out); clear o2
          refine (allT W2 w.heap.size w.heap.size t D H.out).mono ?_
          rintro x w3 ⟨v3, rfl, hv3, o3⟩
          obtain ⟨A3, c3, e3, -, -, -, r3, -, -⟩ := RdS.of_own hv3 (rws_one enc_one _)
          subst e3
          have R3 := hid r3
          replace H := hid (H.out.nil o3); replace Q := hid (Q.out.trans o3); replace OR := hid (OR.out.only o3 (by simp))
          clear r3 hv3 o3
          obtain ⟨n, hn⟩ : ∃ n, D.length = n := ⟨_, rfl⟩
          have HN := hid hn
          rw [hn] at R3 ⊢
          have hn64 : n ≤ 64 := by rw [← hn]; exact H.out.len
          clear hn
          go_wp2_with fail
          go_loopw [10, 11] (fun f i wq => ∃ j : Nat, j ≤ n ∧ i = .int .i64 j ∧ f = .int .i64 (nf D a j : Nat) ∧ Hid (Only [] w3 wq)) (fun _ i _ => n - (RowKit.intOf i).toNat)
          case atStart => exact ⟨0, by omega, rfl, by first | rfl | (simp [nf]; done), hid (Only.refl _ _)⟩
          case round =>
            obtain ⟨j, hj, rfl, rfl, HQ⟩ := hrel
            have HOR := hid (OR.out.only HQ.out (by simp))
            by_cases hjn : j < n
            · have hjl : j < D.length := by rw [HN.out]; exact hjn
              obtain ⟨b, off, rfl, hb1, hc1⟩ := (R3.out.only_nil HQ.out).elem HN.out enc_len (by omega) j hjl
              have HNS := hid (nf_succ (a := a) hjl)
              have HX : Hid (D[j] ∈ D) := hid (List.getElem_mem hjl)
              have HNL := hid (nf_le D a j)
              generalize D[j] = y at *
              have HOK := hid (H.out.ok HX.out)
              obtain ⟨yn, yb, yv, ym⟩ := y
              have d0 : wr.cell? ⟨b, off + j * 4, none⟩ = some (.int .u32 yn) := by have := hc1 0 _ rfl; rwa [Nat.add_zero] at this
              have d1 := hc1 1 _ rfl; have d2 := hc1 2 _ rfl; have d3 := hc1 3 _ rfl
              clear hc1 hb1 hjl
              obtain ⟨wq, hwq⟩ : ∃ wq, wq = wr := ⟨_, rfl⟩
              subst hwq
              obtain ⟨W4, hW4⟩ : ∃ W4, wq.alloc (.cells #[.int .u32 yn, .int .i64 yb, .int .u32 yv, .int .i64 ym] 34) = W4 := ⟨_, rfl⟩
              have OY : Hid (Ob W4 wq.heap.size 34 #[.int .u32 yn, .int .i64 yb, .int .u32 yv, .int .i64 ym]) := hid (by rw [← hW4]; exact Ob.new _ _ _)
              have o4 : Only [] wq W4 := by rw [← hW4]; exact (Only.refl [] wq).alloc _
              have Q4 := hid (HQ.out.trans o4); have OR4 := hid (HOR.out.only o4 (by simp))
              have y0 := OY.out.cell 0; have y1 := OY.out.cell 1; have y2 := OY.out.cell 2; have y3 := OY.out.cell 3
              clear o4
              go_wp2_with fail
              clear d0 d1 d2 d3 y0 y1 y2 y3 hW4
              refine (fits2 W4 ⟨yn, yb, yv, ym⟩ a HOK.out ha).mono ?_
              rintro x w5 ⟨rfl, o5⟩
              have Q5 := hid (Q4.out.trans o5); have OR5 := hid (OR4.out.only o5 (by simp)); have OY5 := hid (OY.out.only o5 (by simp))
              clear o5
              have HNF := hid (HNO.out _ HX.out)
              have hd : decide (Fts ⟨yn, yb, yv, ym⟩ a) = false := decide_eq_false HNF.out
              rw [hd]
              have HNE : Hid (nf D a (j + 1) = nf D a j) := hid (by rw [HNS.out, if_neg HNF.out]; rfl)
              clear hd
              go_wp2_with fail
              go_roundw
              case rel => exact ⟨j + 1, by omega, by first | rfl | go_num, by rw [HNE.out], Q5⟩
              case measure => simp [RowKit.intOf]; omega
            · obtain rfl : j = n := by omega
              replace Q := hid (Q.out.trans HQ.out)
              have hz : nf D a j = 0 := nf_zero HNO.out _
              rw [hz]
              clear hz
              go_wp2_with fail
              refine (known1 wr).mono ?_
              rintro x w7 ⟨rfl, o7⟩
              replace Q := hid (Q.out.trans o7); clear o7
              go_wp2_with fail
              go_ret
              exact ⟨rfl, Q.out⟩
        · have HIN := hid hin; have HFR := hid hfr; have HMIN := hid hmin; clear hin hfr hmin HF
          obtain ⟨rn, rb, rv, rm⟩ := r
          unfold Rt.val
          obtain ⟨W2, hW2⟩ : ∃ W2, w1.alloc (.cells #[.int .u32 rn, .int .i64 rb, .int .u32 rv, .int .i64 rm] 34) = W2 := ⟨_, rfl⟩
          have OR : Hid (Ob W2 w1.heap.size 34 #[.int .u32 rn, .int .i64 rb, .int .u32 rv, .int .i64 rm]) := hid (by rw [← hW2]; exact Ob.new _ _ _)
          have o2 : Only [] w1 W2 := by rw [← hW2]; exact (Only.refl [] w1).alloc _
          replace H := hid (H.out.nil o2); replace Q := hid (Q.out.trans o2); clear o2
          go_wp2_with fail
          clear hW2
          refine (allT W2 w.heap.size w.heap.size t D H.out).mono ?_
          rintro x w3 ⟨v3, rfl, hv3, o3⟩
          obtain ⟨A3, c3, e3, -, -, -, r3, -, -⟩ := RdS.of_own hv3 (rws_one enc_one _)
          subst e3
          have R3 := hid r3
          replace H := hid (H.out.nil o3); replace Q := hid (Q.out.trans o3); replace OR := hid (OR.out.only o3 (by simp))
          clear r3 hv3 o3
          obtain ⟨n, hn⟩ : ∃ n, D.length = n := ⟨_, rfl⟩
          have HN := hid hn
          rw [hn] at R3 ⊢
          have hn64 : n ≤ 64 := by rw [← hn]; exact H.out.len
          clear hn
          go_wp2_with fail
          go_loopw [10, 11] (fun f i wq => ∃ j : Nat, j ≤ n ∧ i = .int .i64 j ∧ f = .int .i64 (nf D a j : Nat) ∧ Hid (Only [] w3 wq)) (fun _ i _ => n - (RowKit.intOf i).toNat)
          case atStart => exact ⟨0, by omega, rfl, by first | rfl | (simp [nf]; done), hid (Only.refl _ _)⟩
          case round =>
            obtain ⟨j, hj, rfl, rfl, HQ⟩ := hrel
            have HOR := hid (OR.out.only HQ.out (by simp))
            by_cases hjn : j < n
            · have hjl : j < D.length := by rw [HN.out]; exact hjn
              obtain ⟨b, off, rfl, hb1, hc1⟩ := (R3.out.only_nil HQ.out).elem HN.out enc_len (by omega) j hjl
              have HNS := hid (nf_succ (a := a) hjl)
              have HX : Hid (D[j] ∈ D) := hid (List.getElem_mem hjl)
              have HNL := hid (nf_le D a j)
              generalize D[j] = y at *
              have HOK := hid (H.out.ok HX.out)
              obtain ⟨yn, yb, yv, ym⟩ := y
              have d0 : wr.cell? ⟨b, off + j * 4, none⟩ = some (.int .u32 yn) := by have := hc1 0 _ rfl; rwa [Nat.add_zero] at this
              have d1 := hc1 1 _ rfl; have d2 := hc1 2 _ rfl; have d3 := hc1 3 _ rfl
              clear hc1 hb1 hjl
              obtain ⟨wq, hwq⟩ : ∃ wq, wq = wr := ⟨_, rfl⟩
              subst hwq
              obtain ⟨W4, hW4⟩ : ∃ W4, wq.alloc (.cells #[.int .u32 yn, .int .i64 yb, .int .u32 yv, .int .i64 ym] 34) = W4 := ⟨_, rfl⟩
              have OY : Hid (Ob W4 wq.heap.size 34 #[.int .u32 yn, .int .i64 yb, .int .u32 yv, .int .i64 ym]) := hid (by rw [← hW4]; exact Ob.new _ _ _)
              have o4 : Only [] wq W4 := by rw [← hW4]; exact (Only.refl [] wq).alloc _
              have Q4 := hid (HQ.out.trans o4); have OR4 := hid (HOR.out.only o4 (by simp))
              have y0 := OY.out.cell 0; have y1 := OY.out.cell 1; have y2 := OY.out.cell 2; have y3 := OY.out.cell 3
              clear o4
              go_wp2_with fail
              clear d0 d1 d2 d3 y0 y1 y2 y3 hW4
              refine (fits2 W4 ⟨yn, yb, yv, ym⟩ a HOK.out ha).mono ?_
              rintro x w5 ⟨rfl, o5⟩
              have Q5 := hid (Q4.out.trans o5); have OR5 := hid (OR4.out.only o5 (by simp)); have OY5 := hid (OY.out.only o5 (by simp))
              clear o5
              by_cases hft : Fts ⟨yn, yb, yv, ym⟩ a
              · have hd : decide (Fts ⟨yn, yb, yv, ym⟩ a) = true := decide_eq_true hft
                rw [hd]
                have HNE : Hid (nf D a (j + 1) = nf D a j + 1) := hid (by rw [HNS.out, if_pos hft])
                have hna := HMIN.out _ HX.out hft
                have hnet := fun hb => fts_net HOK.out (H.out.ok HIN.out) hft HFR.out hb
                simp only [Ahd] at hna hnet
                have hb1 : ¬ rb < yb := by omega
                have hnl : nf D a j ≤ 64 := by have := HNL.out; have := HN.out; omega
                have y1 := OY5.out.cell 1; have y3 := OY5.out.cell 3; have r1 := OR5.out.cell 1; have r3 := OR5.out.cell 3
                generalize nf D a j = nn at *
                by_cases hbe : yb = rb
                · have hm3 : ¬ ym < rm := by have := hnet hbe; omega
                  have z1 : (yb == rb) = true := by simpa using hbe
                  clear hna hnet hd hbe
                  go_wp2_with fail
                  go_roundw
                  case rel => exact ⟨j + 1, by omega, by first | rfl | go_num, by rw [HNE.out]; first | rfl | go_num, Q5⟩
                  case measure => simp [RowKit.intOf]; omega
                · have z1 : (yb == rb) = false := by simpa using hbe
                  clear hna hnet hd hbe
                  go_wp2_with fail
                  go_roundw
                  case rel => exact ⟨j + 1, by omega, by first | rfl | go_num, by rw [HNE.out]; first | rfl | go_num, Q5⟩
                  case measure => simp [RowKit.intOf]; omega
              · have hd : decide (Fts ⟨yn, yb, yv, ym⟩ a) = false := decide_eq_false hft
                rw [hd]
                have HNE : Hid (nf D a (j + 1) = nf D a j) := hid (by rw [HNS.out, if_neg hft]; rfl)
                clear hd
                go_wp2_with fail
                go_roundw
                case rel => exact ⟨j + 1, by omega, by first | rfl | go_num, by rw [HNE.out], Q5⟩
                case measure => simp [RowKit.intOf]; omega
            · obtain rfl : j = n := by omega
              replace Q := hid (Q.out.trans HQ.out)
              have hp : 0 < nf D a j := by have := nf_pos HIN.out HFR.out; rwa [HN.out] at this
              have hp2 : (0 : Int) < ((nf D a j : Nat) : Int) := by omega
              generalize nf D a j = nn at *
              have zd : decide (0 < nn) = true := decide_eq_true hp
              clear hp hp2
              have r0 := HOR.out.cell 0; have r1 := HOR.out.cell 1; have r2 := HOR.out.cell 2; have r3 := HOR.out.cell 3
              go_wp2_with fail
              clear r0 r1 r2 r3
              refine (fits2 wr ⟨rn, rb, rv, rm⟩ a (H.out.ok HIN.out) ha).mono ?_
              rintro x w6 ⟨rfl, o6⟩
              replace Q := hid (Q.out.trans o6)
              clear o6
              have hd : decide (Fts ⟨rn, rb, rv, rm⟩ a) = true := decide_eq_true HFR.out
              rw [hd]
              clear hd
              go_wp2_with fail
              refine (known1 w6).mono ?_
              rintro x w7 ⟨rfl, o7⟩
              replace Q := hid (Q.out.trans o7); clear o7
              go_wp2_with fail
              go_ret
              exact ⟨rfl, Q.out⟩
end Go.Proofs.Ytoidpakenocllaa.rou
