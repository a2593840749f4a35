/-
  Chapter 21 (name): the law NameBack, by a walk of its text. Conditions: none but those typed.
-/
import Derived.Test.YtfoecnlbiaiibaaNamBf
import Derived.Test.YtfoecnlbiaiibaaNamHu
namespace Go.Proofs.Ytfoecnlbiaiibaa.nam
set_option linter.unusedVariables false
set_option linter.unusedSimpArgs false
open Go.ChangeShapes Go.WideShapes Go.ChangeAt Go.RowKit Go.IntWalk Go.Lib
/-- A record as a question's is compared. -/
def zr (r : Rc) : Rc := ⟨r.s, r.ty, r.cl, 0, none, 0, 0, []⟩
theorem zr_key (L : List Rc) : (L.map zr).map Rc.key = L.map Rc.keyQ := by
  rw [List.map_map]; rfl
theorem zr_set (L : List Rc) (k : Nat) (hk : k < L.length) : ((rcs ((L.take k).map zr ++ L.drop k)).set (k * 5 + 3) (.int .i64 0)).set (k * 5 + 4) (.slice none 0 0) = rcs ((L.take (k + 1)).map zr ++ L.drop (k + 1)) := by
  have h1 : L.drop k = L.getD k rc0 :: L.drop (k + 1) := by
    rw [List.drop_eq_getElem_cons hk, List.getD_eq_getElem?_getD, List.getElem?_eq_getElem hk]; rfl
  have hl : (rcs ((L.take k).map zr)).length = k * 5 := by rw [rcs_len, List.length_map, List.length_take]; congr 1; omega
  rw [rc_take L k hk, h1, List.map_append, rcs_app, rcs_app, rcs_app]
  generalize L.getD k rc0 = r
  obtain ⟨X, hX⟩ : ∃ X, rcs ((L.take k).map zr) = X := ⟨_, rfl⟩
  rw [hX] at hl ⊢
  show ((X ++ (r.cs ++ rcs (L.drop (k + 1)))).set (k * 5 + 3) (.int .i64 0)).set (k * 5 + 4) (.slice none 0 0) = (X ++ ((zr r).cs ++ [])) ++ rcs (L.drop (k + 1))
  rw [List.set_append_right _ _ (by omega), hl, show k * 5 + 3 - k * 5 = 3 from by omega, List.set_append_right _ _ (by omega), hl, show k * 5 + 4 - k * 5 = 4 from by omega, List.append_nil, List.append_assoc]
  congr 1
set_option maxRecDepth 100000 in
set_option maxHeartbeats 8000000 in
theorem back1 (w : World) (id fl : Int) (A1 : Option Addr) (n1 c1 : Nat) (A2 : Option Addr) (n2 c2 : Nat) (m1 : MR w A1 n1 c1) (m2 : MR w A2 n2 c2) (A3 : Option Addr) (n3 c3 : Nat) (Mo : List Int) (hM : Rd .u8 w A3 n3 Mo) (z3 : A3 = none → c3 = 0) :
    Calls Try.prog 6 #[.agg #[.int .i64 id, .int .i64 fl, .slice A1 n1 c1, .slice A2 n2 c2], .slice A3 n3 c3] w fun x w' => x = .returned (.bool true) ∧ Only [] w w' := by
  obtain ⟨L1, e1, r1, d1, s1, z1, _⟩ := m1
  obtain ⟨L2, e2, r2, d2, s2, z2, _⟩ := m2
  obtain ⟨W0, hW0⟩ : ∃ W0, w.alloc (.cells #[.int .i64 id, .int .i64 fl, .slice A1 n1 c1, .slice A2 n2 c2] 39) = W0 := ⟨_, rfl⟩
  have C0 : Hid (Ob W0 w.heap.size 39 #[.int .i64 id, .int .i64 fl, .slice A1 n1 c1, .slice A2 n2 c2]) := hid (by rw [← hW0]; exact Ob.new _ _ _)
  have Q0 : Hid (Only [] w W0) := hid (by rw [← hW0]; exact (Only.refl [] w).alloc _)
  have HH := hid (heavyL W0 id fl A1 A2 n1 n2 c1 c2 L1 L2 e1 e2 (r1.only_nil Q0.out) (r2.only_nil Q0.out) (d1.only_nil Q0.out) (d2.only_nil Q0.out) s1 s2)
  have HE := hid (fun W (o : Only [] W0 W) h => encodeL W id fl A1 A2 n1 n2 c1 c2 L1 L2 e1 e2 (r1.only_nil (Q0.out.trans o)) (r2.only_nil (Q0.out.trans o)) (d1.only_nil (Q0.out.trans o)) (d2.only_nil (Q0.out.trans o)) z1 z2 h)
  have E1 := hid e1; have E2 := hid e2; have R1 := hid r1; have R2 := hid r2; have D1 := hid d1; have D2 := hid d2; have Z1 := hid z1
  have S2 : Hid (∀ r ∈ L2, r.n ≤ 140737488351232) := hid (fun r hr => (d2 r hr).1.2.2.1)
  have HM := hid hM; have Z3 := hid z3
  have hMl := hM.len
  have k0 := C0.out.cell 0; have k1 := C0.out.cell 1; have k2 := C0.out.cell 2; have k3 := C0.out.cell 3
  clear e1 e2 r1 r2 d1 d2 z1 z2 hM z3
  go_enter Try.func6, Try.ntmps6
  go_wp2_with fail
  refine HH.out.mono ?_
  rintro x w1 ⟨hv, rfl, o1, hq⟩
  have Q1 := hid o1
  have C1 := hid (C0.out.only o1 (by simp))
  have HQ := hid hq
  clear o1 hq k0 k1 k2 k3 HH hW0
  have k0 := C1.out.cell 0; have k1 := C1.out.cell 1; have k2 := C1.out.cell 2; have k3 := C1.out.cell 3
  cases hv with
  | true =>
    go_wp2_with fail
    go_ret
    exact ⟨rfl, Q0.out.trans Q1.out⟩
  | false =>
    have H12 := hid (HQ.out rfl)
    by_cases hm3 : n3 ≤ 3000
    case neg =>
      have hm3b : (3000 : Int) < (n3 : Int) := by omega
      go_wp2_with fail
      go_ret
      exact ⟨rfl, Q0.out.trans Q1.out⟩
    have hm3b : ¬ (3000 : Int) < (n3 : Int) := by omega
    go_wp2_with fail
    refine (HE.out w1 Q1.out H12.out).mono ?_
    rintro x w2 ⟨v2, e2, rfl, he2, hv2, o2⟩
    have C2 := hid (C1.out.only o2 (by simp))
    have Q2 := hid (Q1.out.trans o2)
    have V2 := hid hv2; have E2e := hid he2
    have hs2 := o2.size
    clear hv2 he2 o2 k0 k1 k2 k3 HE hm3b
    by_cases h0 : e2 = 0
    case neg =>
      have h0b : (e2 != 0) = true := by simpa using h0
      have V3 : Hid (Own .u8 5 w2 w1.heap.size v2 []) := hid (by have h9 := V2.out; rw [if_neg h0] at h9; exact h9)
      obtain ⟨A4, c4, rfl, _, _⟩ := own_form V3.out
      go_wp2_with fail
      refine (known21 _).mono ?_
      rintro x w9 ⟨rfl, o9⟩
      have Q9 := hid (Q2.out.trans o9); clear o9
      go_wp2_with fail
      go_ret
      exact ⟨rfl, Q0.out.trans Q9.out⟩
    subst h0
    have V3 : Hid (Own .u8 5 w2 w1.heap.size v2 (encB id fl L1 L2)) := hid (by have h9 := V2.out; rw [if_pos rfl] at h9; exact h9)
    have HOK : Hid (AllOK id fl L1 L2) := hid (by
      rcases E2e.out with ⟨h, _⟩ | ⟨h, _⟩ | ⟨h, _⟩ | ⟨h, _⟩ | ⟨_, h⟩
      · exact absurd h (by decide)
      · exact absurd h (by decide)
      · exact absurd h (by decide)
      · exact absurd h (by decide)
      · exact h)
    have HPu : Hid (PureR L2) := hid (fun r hr => ⟨(D2.out r hr).1.1.len, rd_bd (D2.out r hr).1.1⟩)
    have HLn : Hid ((encB id fl L1 L2).length ≤ 100000000) := hid (by
      have a1 := heads_size L1 L1.length
      have a2 := answ_size D2.out HOK.out.2.2.2.2 L2.length
      have b1 := HOK.out.1.2.2.1
      have b2 := HOK.out.1.2.2.2.1
      rw [List.take_length] at a1 a2
      unfold encB heads answ
      rw [List.length_append, List.length_append]
      show 12 + _ + _ ≤ _
      omega)
    have HM2 := hid (HM.out.only_nil (Q0.out.trans Q2.out))
    have HLp : Hid (12 ≤ (encB id fl L1 L2).length) := hid (by
      unfold encB
      rw [List.length_append, List.length_append]
      show 12 ≤ 12 + _ + _
      omega)
    obtain ⟨l, hl⟩ : ∃ l, encB id fl L1 L2 = l := ⟨_, rfl⟩
    have HLe := hid hl
    rw [hl] at V3 HLn HLp
    clear hl V2
    go_wp2_with (at_builtin; refine wpList_app _ rfl (.tmp 32) (.tmp 33) _ rfl wrt.elemB w1.heap.size v2 l rfl V3.out A3 n3 c3 Mo rfl HM2.out Z3.out (by have := HLn.out; omega) (by have := HLn.out; unfold maxLen; omega) hs2 ?_)
    intro v3 w3 hv3 hg3 hb3
    have V4 := hid hv3
    have Q3 : Hid (Only [] W0 w3) := hid (Q2.out.own_grown V3.out hg3 Q1.out.size)
    have C3 : Hid (Ob w3 w.heap.size 39 #[.int .i64 id, .int .i64 fl, .slice A1 n1 c1, .slice A2 n2 c2]) := hid (C0.out.only Q3.out (by simp))
    obtain ⟨A4, c4, ev4, hnc4, hcm4, hrd4, _⟩ := hv3.slice
    have hlen4 : (l ++ Mo).length = l.length + n3 := by rw [List.length_append, hMl]
    obtain ⟨b4, off4, e4, _⟩ := hrd4.cells (by have := HLp.out; rw [hlen4]; omega)
    subst ev4 e4
    have HR4 := hid hrd4; have HC4 := hid hcm4
    obtain ⟨nB, hnB⟩ : ∃ nB, (l ++ Mo).length = nB := ⟨_, rfl⟩
    rw [hnB] at HR4 hnc4 hlen4
    rw [hnB]
    have hnB2 : nB ≤ 1000000000 := by have := HLn.out; omega
    clear hv3 hg3 hb3 hrd4 hcm4 hnB V3 V4 hs2 hlen4
    go_wp2_with fail
    refine (decodeL w3 b4 off4 nB c4 (l ++ Mo) Mo HR4.out hnc4 HC4.out hnB2 id fl L1 L2 n1 n2 E1.out E2.out HOK.out HPu.out (by rw [HLe.out])).mono ?_
    rintro x w5 ⟨D1q, D2a, cq, ca, LQ, LA, rfl, rq, ra, kq, ka, dq, da, o5, fq, fa⟩
    have hlq : LQ.length = n1 := by have h9 := congrArg List.length kq; rw [List.length_map, List.length_map, E1.out] at h9; exact h9
    have hla : LA.length = n2 := by have h9 := congrArg List.length ka; rw [List.length_map, List.length_map, E2.out] at h9; exact h9
    have hw03 : w.heap.size < w3.heap.size := C3.out.lt
    have Q5 := hid (Q3.out.trans o5)
    have C5 := hid (C3.out.only o5 (by simp))
    have RQ := hid rq; have RA := hid ra; have KQ := hid kq; have KA := hid ka; have DQ := hid dq; have DA := hid da
    have FQ : Hid (∀ b off, D1q = some ⟨b, off, none⟩ → b ∉ [w.heap.size]) := hid (fun b off e hm => by have h1 := fq b off e; simp at hm; omega)
    have FA : Hid (∀ b off, D2a = some ⟨b, off, none⟩ → b ∉ [w.heap.size]) := hid (fun b off e hm => by have h1 := fa b off e; simp at hm; omega)
    rw [hlq, hla]
    have hsz5 := Q5.out.size
    obtain ⟨W8, hW8⟩ : ∃ W8, (w5.alloc (.cells #[.int .i64 id, .int .i64 fl, .slice D1q n1 cq, .slice D2a n2 ca] 39)).alloc (.cells #[] 46) = W8 := ⟨_, rfl⟩
    have O8 : Hid (Only [] w5 W8) := hid (by rw [← hW8]; exact ((Only.refl [] w5).alloc _).alloc _)
    have M8 : Hid (Ob W8 w5.heap.size 39 #[.int .i64 id, .int .i64 fl, .slice D1q n1 cq, .slice D2a n2 ca]) := hid (by rw [← hW8]; exact (Ob.new _ _ _).alloc _)
    have V8 : Hid (W8.ownsRow (w5.heap.size + 1) 46 5 (.slice (some ⟨w5.heap.size + 1, 0, none⟩) 0 0) 0 []) := hid (by rw [← hW8]; simpa using own_empty (w5.alloc (.cells #[.int .i64 id, .int .i64 fl, .slice D1q n1 cq, .slice D2a n2 ca] 39)) 46 5 (w5.heap.size + 1) (by simp))
    have hsz8 : w5.heap.size + 1 ≤ W8.heap.size := by rw [← hW8]; simp
    have R18 : Hid (RdS W8 A1 n1 5 (rcs L1)) := hid (by have h9 := (((R1.out.only_nil Q0.out).only_nil Q5.out).only_nil O8.out); unfold RowR at h9; rwa [E1.out] at h9)
    have k2 := (C5.out.only O8.out (by simp)).cell 2
    have hn1b : n1 ≤ 64 := by have := HOK.out.1.2.2.1; rw [E1.out] at this; exact this
    have hn2b : n2 ≤ 64 := by have := HOK.out.1.2.2.2.1; rw [E2.out] at this; exact this
    clear rq ra kq ka dq da o5 fq fa hw03
    go_wp2_with (at_builtin; refine wpList_appS0 _ rfl (.tmp 38) (.tmp 40) _ rfl elemRec (w5.heap.size + 1) _ 0 [] rfl V8.out A1 n1 c1 (rcs L1) rfl R18.out Z1.out (by omega) (by unfold maxLen; omega) hsz8 ?_)
    intro v9 w9 hv9 hg9 hb9
    have O9 : Hid (Only [] w5 w9) := hid (O8.out.of_grown hg9 (fun i hi => .inr (by have := (own_lt V8.out i hi).1; omega)))
    have M9 : Hid (Ob w9 w5.heap.size 39 #[.int .i64 id, .int .i64 fl, .slice D1q n1 cq, .slice D2a n2 ca]) := hid ((hg9.block _ M8.out.lt (fun e => by have := (own_lt V8.out _ e.symm).1; omega)).trans M8.out)
    have hv9b : w9.ownsRow (w5.heap.size + 1) 46 5 v9 n1 (rcs L1) := by simpa using hv9
    obtain ⟨A9, c9, ev9, hnc9, hcm9, hc09, hrd9, hblk9, hf9⟩ := RdS.of_own hv9b (rcs_one _)
    subst ev9
    have V9 := hid hv9b; have F9 := hid hf9
    clear hv9 hv9b hg9 hb9 hcm9 hc09 hrd9 hblk9 hf9 V8 R18 k2 hW8 hsz8
    go_wp2_with fail
    go_loopw [10] (fun i wr => ∃ k : Nat, i = .int .i64 k ∧ k ≤ n1 ∧ Hid (wr.ownsRow (w5.heap.size + 1) 46 5 (.slice A9 n1 c9) n1 (rcs ((L1.take k).map zr ++ L1.drop k))) ∧ Hid (Only [] w5 wr) ∧ Hid (Ob wr w5.heap.size 39 #[.int .i64 id, .int .i64 fl, .slice D1q n1 cq, .slice D2a n2 ca])) (fun i _ => n1 - (RowKit.intOf i).toNat)
    case atStart => exact ⟨0, rfl, by omega, hid (by simpa using V9.out), O9, M9⟩
    case round =>
      clear V9 O9 M9
      obtain ⟨k, rfl, hk, HV, HO, HMm⟩ := hrel
      by_cases hlt : k < n1
      · obtain ⟨g, rfl⟩ : ∃ g, A9 = some ⟨g, 0, none⟩ := by
          rcases F9.out with h | h
          · exfalso
            rcases HV.out.2 with ⟨h9, h8⟩ | ⟨p, cap, cur, h9, _⟩
            · omega
            · rw [h] at h9; cases h9
          · exact h
        have hgl := own_lt HV.out g rfl
        have hgl1 := hgl.1
        have HST := hid (zr_set L1 k (by rw [E1.out]; exact hlt))
        have hcl : ∀ j, j < n1 * 5 → (wr.cell? ⟨g, j, none⟩).isSome = true ∧ wr.frozen? ⟨g, j, none⟩ = false := by
          intro j hj
          rcases HV.out.2 with ⟨h9, h8⟩ | ⟨p, cap, cur, h9, hb9, hh9, hc9, _, hs9, _⟩
          · omega
          · injection h9 with h1 _ h3
            injection h1 with h1; injection h1 with h1 _
            subst h1
            rw [cell_of_row wr g j cur 46 (0, 0) hh9, frozen_of_row wr g j cur 46 hh9]
            have : n1 * 5 ≤ cap * 5 := Nat.mul_le_mul_right _ hc9
            rw [Array.getElem?_eq_getElem (by omega)]
            exact ⟨rfl, rfl⟩
        obtain ⟨x3, hx3⟩ := Option.isSome_iff_exists.1 (hcl (k * 5 + 3) (by omega)).1
        obtain ⟨x4, hx4⟩ := Option.isSome_iff_exists.1 (hcl (k * 5 + 4) (by omega)).1
        have ff3 := (hcl (k * 5 + 3) (by omega)).2
        have ff4 := (hcl (k * 5 + 4) (by omega)).2
        have hs1 := (World.ownsRow.stored HV.out (k * 5 + 3) (.int .i64 0)).1
        have hs2 := (World.ownsRow.stored hs1 (k * 5 + 4) (.slice none 0 0)).1
        rw [HST.out] at hs2
        have HS2 := hid hs2
        have HO2 : Hid (Only [] w5 ((wr.setCell ⟨g, k * 5 + 3, none⟩ (.int .i64 0)).setCell ⟨g, k * 5 + 4, none⟩ (.slice none 0 0))) := hid ((HO.out.setCell (p := ⟨g, k * 5 + 3, none⟩) (Or.inr (by show w5.heap.size ≤ g; omega)) _).setCell (p := ⟨g, k * 5 + 4, none⟩) (Or.inr (by show w5.heap.size ≤ g; omega)) _)
        have HM2 := hid ((HMm.out.far (p := ⟨g, k * 5 + 3, none⟩) (by show w5.heap.size ≠ g; omega) (.int .i64 0)).far (p := ⟨g, k * 5 + 4, none⟩) (by show w5.heap.size ≠ g; omega) (.slice none 0 0))
        clear hs1 hs2 hcl hgl hgl1
        go_wp2_with fail
        go_roundw
        case rel => exact ⟨k + 1, by first | rfl | go_num, by omega, HS2, HO2, HM2⟩
        case measure => simp [RowKit.intOf]; omega
      · have HVz : Hid (wr.ownsRow (w5.heap.size + 1) 46 5 (.slice A9 n1 c9) n1 (rcs (L1.map zr))) := hid (by
          have h9 := HV.out
          rw [List.take_of_length_le (by rw [E1.out]; omega), List.drop_of_length_le (by rw [E1.out]; omega), List.append_nil] at h9
          exact h9)
        obtain ⟨A9', c9', ev9, _, _, _, hrd9, hblk9, _⟩ := RdS.of_own HVz.out (rcs_one _)
        injection ev9 with ev1 _ ev3
        subst ev1 ev3
        have CB := hid (C5.out.only HO.out (by simp))
        have oB : Only [w.heap.size] wr (wr.setCell ⟨w.heap.size, 2, none⟩ (.slice A9 n1 c9)) := (Only.refl _ wr).setCell (Or.inl (by simp)) _
        have RZ : Hid (RowR (wr.setCell ⟨w.heap.size, 2, none⟩ (.slice A9 n1 c9)) A9 (L1.map zr)) := hid (by
          unfold RowR
          rw [List.length_map, E1.out]
          exact RdS.only hrd9 oB (fun b off e _ hm => by have h1 := (own_lt HVz.out b (hblk9 b off e).2).1; have := C5.out.lt; simp at hm; omega))
        have KB : K8 w5 (wr.setCell ⟨w.heap.size, 2, none⟩ (.slice A9 n1 c9)) := (K8.of_nil HO.out).trans (K8.of_one oB CB.out (by decide))
        have RQ2 := hid (RdS.only (RowR.only_nil RQ.out HO.out) oB (fun b off e _ => FQ.out b off e))
        have RA2 := hid (RdS.only (RowR.only_nil RA.out HO.out) oB (fun b off e _ => FA.out b off e))
        have DQ2 := hid (DQ.out.keep KB); have DA2 := hid (DA.out.keep KB)
        have QF : Hid (Only [] w (wr.setCell ⟨w.heap.size, 2, none⟩ (.slice A9 n1 c9))) := hid (((Q0.out.trans Q5.out).trans HO.out).setCell (p := ⟨w.heap.size, 2, none⟩) (Or.inr (Nat.le_refl _)) _)
        have CF : Hid (Ob (wr.setCell ⟨w.heap.size, 2, none⟩ (.slice A9 n1 c9)) w.heap.size 39 #[.int .i64 id, .int .i64 fl, .slice A9 n1 c9, .slice A2 n2 c2]) := hid (CB.out.set 2 _)
        have MF := hid (HMm.out.far (p := ⟨w.heap.size, 2, none⟩) (by have := C5.out.lt; show w5.heap.size ≠ w.heap.size; omega) (.slice A9 n1 c9))
        have ce2 := CB.out.cell 2; have fe2 := CB.out.frozen 2
        obtain ⟨WF, hWF⟩ : ∃ WF, wr.setCell ⟨w.heap.size, 2, none⟩ (.slice A9 n1 c9) = WF := ⟨_, rfl⟩
        rw [hWF] at RZ RQ2 RA2 DQ2 DA2 QF CF MF
        have p0 := CF.out.cell 0; have p1 := CF.out.cell 1; have p2 := CF.out.cell 2; have p3 := CF.out.cell 3
        have q0 := MF.out.cell 0; have q1 := MF.out.cell 1; have q2 := MF.out.cell 2; have q3 := MF.out.cell 3
        clear hrd9 hblk9 KB oB
        go_wp2_with fail
        refine (messagesL WF id fl A9 A2 D1q D2a c9 c2 cq ca n1 n2 (L1.map zr) L2 LQ LA (by rw [List.length_map, E1.out]) E2.out (by rw [zr_key, KQ.out]) KA.out.symm RZ.out (R2.out.only_nil QF.out) RQ2.out RA2.out ?rz (RdL.of_dat (D2.out.only_nil QF.out)) (RdL.of_dbs DQ2.out) (RdL.of_dbs DA2.out) ?nz S2.out (by omega) (by omega)).mono ?_
        case rz => intro r hr; obtain ⟨r0, _, rfl⟩ := List.mem_map.1 hr; exact Rd.nil _ _ _
        case nz => intro r hr; obtain ⟨r0, _, rfl⟩ := List.mem_map.1 hr; exact Nat.zero_le _
        rintro x w8 ⟨rfl, o8⟩
        have Q8 := hid (QF.out.trans o8)
        clear o8 p0 p1 p2 p3 q0 q1 q2 q3
        go_wp2_with fail
        refine (known21 _).mono ?_
        rintro x w9 ⟨rfl, o9⟩
        have Q9 := hid (Q8.out.trans o9); clear o9
        go_wp2_with fail
        go_ret
        exact ⟨rfl, Q9.out⟩
end Go.Proofs.Ytfoecnlbiaiibaa.nam
