/-
  Chapter 9 (icmp): a law, by a walk of its text: what is told of a packet is its header and its first eight bytes; its flow is read from that. Conditions: none but those typed.
-/
import Derived.Test.YtekanilgeigddaaIcqC
import Derived.Test.YtekanilgeigddaaEvK9
namespace Go.Proofs.Ytekanilgeigddaa.ip
set_option linter.unusedVariables false
set_option linter.unusedSimpArgs false
open Go.ChangeShapes Go.WideShapes Go.ChangeAt Go.RowKit Go.IntWalk Go.Lib
theorem and13 (m : Nat) (h : m < 65536) : bits .and .i64 (m : Int) 8191 = ((m % 8192 : Nat) : Int) := by
  rw [show (8191 : Int) = ((8191 : Nat) : Int) from rfl, i64_and_nat m 8191 (by omega) (by decide), show 8191 = 2 ^ 13 - 1 from rfl, Nat.and_two_pow_sub_one_eq_mod]
theorem ports_no {off pr : Int} {hh : Nat} {d Q : List Int} (hoff : 0 ≤ off) (h8 : off % 8 = 0) (hl' : Q.length = hh + (d.take 8).length) (h : ¬ (off = 0 ∧ 4 ≤ d.length ∧ (pr = 6 ∨ pr = 17))) : fpF pr (off / 8) hh Q = 0 ∧ tpF pr (off / 8) hh Q = 0 := by
  have hn : ¬ ((pr = 17 ∨ pr = 6) ∧ off / 8 = 0 ∧ hh + 4 ≤ Q.length) := fun g => h ⟨by have := g.2.1; omega, by have := g.2.2; rw [hl', List.length_take] at this; omega, g.1.symm⟩
  unfold fpF tpF
  rw [if_neg hn, if_neg hn]
  exact ⟨rfl, rfl⟩
theorem ports_yes {off pr : Int} {hh : Nat} {d Q : List Int} (hl' : Q.length = hh + (d.take 8).length) (hd : Q.drop hh = d.take 8) (h0 : off = 0) (h4 : 4 ≤ d.length) (hp : pr = 6 ∨ pr = 17) :
    fpF pr (off / 8) hh Q = d.getD 0 0 * 256 + d.getD 1 0 ∧ tpF pr (off / 8) hh Q = d.getD 2 0 * 256 + d.getD 3 0 := by
  have hn : (pr = 17 ∨ pr = 6) ∧ off / 8 = 0 ∧ hh + 4 ≤ Q.length := ⟨hp.symm, by omega, by rw [hl', List.length_take]; omega⟩
  unfold fpF tpF
  rw [if_pos hn, if_pos hn, ← List.drop_drop, hd]
  have ht : (d.take 8).length = min 8 d.length := List.length_take
  have g : ∀ i, i < 4 → (d.take 8).getD i 0 = d.getD i 0 := fun i hi => by
    rw [List.getD_eq_getElem?_getD, List.getD_eq_getElem?_getD, List.getElem?_take, if_pos (by omega)]
  constructor
  · have := num_get2 (d.take 8) 0 (by omega)
    rw [List.drop_zero] at this
    rw [this]; unfold ref.get2; rw [g 0 (by omega), g 1 (by omega)]
  · rw [num_get2 (d.take 8) 2 (by omega)]; unfold ref.get2; rw [g 2 (by omega), g 3 (by omega)]
set_option maxRecDepth 100000 in
set_option maxHeartbeats 4000000 in
theorem quotes (w : World) (sv pid off lf pr : Int) (wh mo : Bool) (fr to : Int) (oA : Option Addr) (on oc : Nat) (dA : Option Addr) (dn dc : Nat) (o d : List Int) (ho : Rd .u8 w oA on o) (hoc : oA = none → oc = 0) (hnc : on ≤ oc) (hcm : oc ≤ maxLen) (hd : Rd .u8 w dA dn d) (hdc : dA = none → dc = 0) (hnd : dn ≤ dc) (hf : 0 ≤ fr ∧ fr ≤ 4294967295) (ht : 0 ≤ to ∧ to ≤ 4294967295) :
    Calls Try.prog 7 #[.agg #[.int .i64 sv, .int .i64 pid, .bool wh, .bool mo, .int .i64 off, .int .i64 lf, .int .i64 pr, .int .u32 fr, .int .u32 to, .slice oA on oc, .slice dA dn dc]] w fun x w' => x = .returned (.bool true) ∧ Only [] w w' := by
  have QB : Hid (Only [] w (w.alloc (.cells #[.int .i64 sv, .int .i64 pid, .bool wh, .bool mo, .int .i64 off, .int .i64 lf, .int .i64 pr, .int .u32 fr, .int .u32 to, .slice oA on oc, .slice dA dn dc] 46))) := hid ((Only.refl [] w).alloc _)
  have OB : Hid (Ob (w.alloc (.cells #[.int .i64 sv, .int .i64 pid, .bool wh, .bool mo, .int .i64 off, .int .i64 lf, .int .i64 pr, .int .u32 fr, .int .u32 to, .slice oA on oc, .slice dA dn dc] 46)) w.heap.size 46 #[.int .i64 sv, .int .i64 pid, .bool wh, .bool mo, .int .i64 off, .int .i64 lf, .int .i64 pr, .int .u32 fr, .int .u32 to, .slice oA on oc, .slice dA dn dc]) := hid (Ob.new _ _ _)
  by_cases h1 : 4000 < dn
  · have d1 : (4000 : Int) < (dn : Int) := by omega
    go_enter Try.func7, Try.ntmps7
    go_wp2
    all_goals first | (exfalso; omega) | (go_ret; exact ⟨rfl, QB.out⟩)
  by_cases h2 : 100 < on
  · have d1 : ¬ (4000 : Int) < (dn : Int) := by omega
    have d2 : (100 : Int) < (on : Int) := by omega
    go_enter Try.func7, Try.ntmps7
    go_wp2
    all_goals first | (exfalso; omega) | (go_ret; exact ⟨rfl, QB.out⟩)
  have d1 : ¬ (4000 : Int) < (dn : Int) := by omega
  have d2 : ¬ (100 : Int) < (on : Int) := by omega
  by_cases hc : chk sv pid off lf pr o dn = 0
  · obtain ⟨hN, hn40, hok, hll⟩ := chk0 hc
    unfold Nums at hN
    obtain ⟨_, _, _, _, ⟨n0, n1⟩, n8⟩ := hN
    have hoff := hid n0; have H8 := hid n8
    have HDL := hid hd.len
    have HON := hid ho.len
    have HD := hid hd; have HO := hid ho; have HOC := hid hoc; have HDC := hid hdc; have HNC := hid hnc; have HCM := hid hcm; have HND := hid hnd; have HC := hid hc
    have hc2 : chk sv pid off lf pr o d.length = 0 := by rw [hd.len]; exact hc
    obtain ⟨hh, hhE⟩ : ∃ hh, hl o.length = hh := ⟨_, rfl⟩
    obtain ⟨Q, hQ⟩ : ∃ Q, quo sv pid off lf pr wh mo fr to o d = Q := ⟨_, rfl⟩
    obtain ⟨qL, q0, q6, q9, q12, q16, qd⟩ := quo_facts hc2 hf ht (d.take 8) Q (by rw [← hQ]; rfl)
    rw [hhE] at qL q0 qd
    have QL := hid qL; have QD := hid qd; have E0 := hid q0; have E6 := hid q6; have E9 := hid q9; have E12 := hid q12; have E16 := hid q16
    have hhb : 20 ≤ hh ∧ hh ≤ 60 ∧ hh % 4 = 0 := by rw [← hhE]; unfold hl; omega
    have hpb := (pbs_at2' off wh mo ⟨n0, n1⟩)
    have HB13 : Hid (bits .and .i64 (pbs off wh mo) 8191 = off / 8) := hid (by
      obtain ⟨⟨p0, p1⟩, _, p3⟩ := hpb
      obtain ⟨m, hm⟩ := Int.eq_ofNat_of_zero_le p0
      rw [hm] at p1 p3 ⊢
      rw [and13 m (by omega)]
      omega)
    have hqn : Hid (20 ≤ Q.length ∧ Q.length ≤ 68 ∧ hh ≤ Q.length) := hid (by rw [QL.out, List.length_take]; omega)
    have HHB := hid hhb; have HN01 := hid (And.intro n0 n1)
    have HQ := hid hQ
    clear hc hc2 hn40 hok hll qL q0 q6 q9 q12 q16 qd hhb hpb hd ho hoc hdc hnc hcm hnd hhE hQ n0 n1 n8
    have k0 := OB.out.cell 0; have k1 := OB.out.cell 1; have k2 := OB.out.cell 2; have k3 := OB.out.cell 3; have k4 := OB.out.cell 4; have k5 := OB.out.cell 5; have k6 := OB.out.cell 6; have k7 := OB.out.cell 7; have k8 := OB.out.cell 8; have k9 := OB.out.cell 9; have k10 := OB.out.cell 10
    go_enter Try.func7, Try.ntmps7
    go_wp2_with fail
    refine (quote1 _ sv pid off lf pr wh mo fr to oA on oc dA dn dc o d (HO.out.only_nil QB.out) HOC.out HNC.out HCM.out (by omega) (HD.out.only_nil QB.out) HDC.out HND.out (by omega) HC.out).mono ?_
    rintro x w1 ⟨v1, rfl, hv1, o1⟩
    rw [HQ.out] at hv1
    obtain ⟨A1, c1', ev, _, _, r1, _⟩ := hv1.slice
    have hA1 : A1 = none → c1' = 0 := by
      intro hA
      subst hA
      rcases hv1.1.2 with ⟨e1, _⟩ | ⟨g', cap', cur, e1, _⟩
      · rw [e1] at ev; injection ev with _ _ e3; exact e3.symm
      · rw [e1] at ev; cases ev
    subst ev
    have R1 := hid r1; have HA1 := hid hA1
    obtain ⟨L, hL⟩ : ∃ L, Q.length = L := ⟨_, rfl⟩
    rw [hL] at R1 ⊢ hqn
    have HLq := hid hL
    have OB := hid (OB.out.only o1 (by simp)); have QB := hid (QB.out.trans o1)
    clear hv1 r1 hA1 o1 k0 k1 k2 k3 k4 k5 k6 k7 k8 k9 k10 hL
    have k0 := OB.out.cell 0; have k1 := OB.out.cell 1; have k2 := OB.out.cell 2; have k3 := OB.out.cell 3; have k4 := OB.out.cell 4; have k5 := OB.out.cell 5; have k6 := OB.out.cell 6; have k7 := OB.out.cell 7; have k8 := OB.out.cell 8; have k9 := OB.out.cell 9; have k10 := OB.out.cell 10
    go_wp2_with fail
    refine (rquote1 _ sv pid off lf pr wh mo fr to oA on oc dA dn dc o d (HO.out.only_nil QB.out) HOC.out HNC.out HCM.out (by omega) (HD.out.only_nil QB.out) HDC.out HND.out (by omega) HC.out).mono ?_
    rintro x w2 ⟨v2, rfl, hv2, o2⟩
    rw [HQ.out] at hv2
    obtain ⟨A2, c2, ev, _, _, r2, _⟩ := hv2.slice
    subst ev
    rw [HLq.out] at r2 ⊢
    have R2 := hid r2; have R1 := hid (R1.out.only_nil o2)
    have OB := hid (OB.out.only o2 (by simp)); have QB := hid (QB.out.trans o2)
    clear hv2 r2 o2 k0 k1 k2 k3 k4 k5 k6 k7 k8 k9 k10
    have k0 := OB.out.cell 0; have k1 := OB.out.cell 1; have k2 := OB.out.cell 2; have k3 := OB.out.cell 3; have k4 := OB.out.cell 4; have k5 := OB.out.cell 5; have k6 := OB.out.cell 6; have k7 := OB.out.cell 7; have k8 := OB.out.cell 8; have k9 := OB.out.cell 9; have k10 := OB.out.cell 10
    have hl140 : L ≤ 140737488355328 := Nat.le_trans hqn.out.2.1 (by decide)
    go_wp2_with fail
    refine (hlp.same _ _ _ _ _ _ _ _ _ R1.out R2.out hl140 hl140).mono ?_
    rintro x w3 ⟨rfl, m3, hw3⟩
    have o3 : Only [] w2 w3 := by rw [hw3]; exact (Only.refl [] _).drewN m3
    clear hw3
    rw [show decide (Q = Q) = true from decide_eq_true rfl]
    have R1 := hid (R1.out.only_nil o3)
    have OB := hid (OB.out.only o3 (by simp)); have QB := hid (QB.out.trans o3)
    clear o3 k0 k1 k2 k3 k4 k5 k6 k7 k8 k9 k10 R2 hl140
    have k0 := OB.out.cell 0; have k1 := OB.out.cell 1; have k2 := OB.out.cell 2; have k3 := OB.out.cell 3; have k4 := OB.out.cell 4; have k5 := OB.out.cell 5; have k6 := OB.out.cell 6; have k7 := OB.out.cell 7; have k8 := OB.out.cell 8; have k9 := OB.out.cell 9; have k10 := OB.out.cell 10
    have hz : ¬ (L : Int) = 0 := by have := hqn.out.1; omega
    go_wp2_with fail
    clear hz
    refine (flow1 _ A1 L c1' Q (hh / 4) hh _ _ pr fr to R1.out HA1.out HHB.out.1 hqn.out.2.2 (by have := hqn.out; omega) (by have := HHB.out; omega) (by have := HHB.out; omega) E0.out E6.out E9.out E12.out E16.out HB13.out (by have := HN01.out; omega)).mono ?_
    rintro x w5 ⟨rfl, o5⟩
    have OB := hid (OB.out.only o5 (by simp)); have QB := hid (QB.out.trans o5)
    clear o5 k0 k1 k2 k3 k4 k5 k6 k7 k8 k9 k10
    by_cases c1 : off = 0
    · by_cases c2' : 4 ≤ dn
      · have c2i : (4 : Int) ≤ (dn : Int) := by omega
        by_cases c3 : pr = 6
        · skip
          have OBz := hid OB.out; have QBz := hid QB.out
          clear OB QB
          subst c1
          subst c3
          obtain ⟨db, doff, hdA, hdlt, hdc'⟩ := HD.out.at_ (by omega)
          subst hdA
          have OB := OBz; have QB := QBz
          clear OBz QBz
          obtain ⟨hfp, htp⟩ := ports_yes (off := 0) (pr := 6) (hh := hh) (d := d) (Q := Q) QL.out QD.out rfl (by rw [HDL.out]; omega) (.inl rfl)
          rw [hfp, htp]
          clear hfp htp
          obtain ⟨x0, hx0⟩ : ∃ x0, d.getD 0 0 = x0 := ⟨_, rfl⟩
          obtain ⟨x1', hx1⟩ : ∃ x1', d.getD 1 0 = x1' := ⟨_, rfl⟩
          obtain ⟨x2, hx2⟩ : ∃ x2, d.getD 2 0 = x2 := ⟨_, rfl⟩
          obtain ⟨x3, hx3⟩ : ∃ x3, d.getD 3 0 = x3 := ⟨_, rfl⟩
          have b0 := u8Bd (HD.out.getD_wf 0 (by omega)); have b1 := u8Bd (HD.out.getD_wf 1 (by omega)); have b2' := u8Bd (HD.out.getD_wf 2 (by omega)); have b3 := u8Bd (HD.out.getD_wf 3 (by omega))
          have QD' := QB.out.trans ((Only.refl [] w5).alloc (.cells #[.int .i64 6, .int .u32 fr, .int .i64 (x0 * 256 + x1'), .int .u32 to, .int .i64 (x2 * 256 + x3)] 50))
          have y00 := QD'.keep (hdc' 0 (by omega)); rw [Nat.add_zero] at y00; have D0 := hid y00; clear y00; have D1 := hid (QD'.keep (hdc' 1 (by omega))); have D2 := hid (QD'.keep (hdc' 2 (by omega))); have D3 := hid (QD'.keep (hdc' 3 (by omega)))
          clear QD' hdc'
          rw [hx0] at D0 b0; rw [hx1] at D1 b1; rw [hx2] at D2 b2'; rw [hx3] at D3 b3
          rw [hx0, hx1, hx2, hx3]
          clear hx0 hx1 hx2 hx3
          have g0 : 0 < dn := by omega
          have g1 : (1 : Int) < (dn : Int) := by omega
          have g2 : (2 : Int) < (dn : Int) := by omega
          have g3 : (3 : Int) < (dn : Int) := by omega
          have e1 : IntKind.i64.wrap (x0 * 256 + x1') = x0 * 256 + x1' := i64_in _ (by omega)
          have e2 : IntKind.i64.wrap (x2 * 256 + x3) = x2 * 256 + x3 := i64_in _ (by omega)
          have e3 : IntKind.i64.wrap (x0 * 256) = x0 * 256 := i64_in _ (by omega)
          have e4 : IntKind.i64.wrap (x2 * 256) = x2 * 256 := i64_in _ (by omega)
          have e5 : IntKind.i64.wrap x0 = x0 := i64_in _ (by omega)
          have e6 : IntKind.i64.wrap x1' = x1' := i64_in _ (by omega)
          have e7 : IntKind.i64.wrap x2 = x2 := i64_in _ (by omega)
          have e8 : IntKind.i64.wrap x3 = x3 := i64_in _ (by omega)
          have OB := hid (OB.out.alloc (.cells #[.int .i64 6, .int .u32 fr, .int .i64 (x0 * 256 + x1'), .int .u32 to, .int .i64 (x2 * 256 + x3)] 50))
          have OF : Hid (Ob (w5.alloc (.cells #[.int .i64 6, .int .u32 fr, .int .i64 (x0 * 256 + x1'), .int .u32 to, .int .i64 (x2 * 256 + x3)] 50)) w5.heap.size 50 #[.int .i64 6, .int .u32 fr, .int .i64 (x0 * 256 + x1'), .int .u32 to, .int .i64 (x2 * 256 + x3)]) := hid (Ob.new _ _ _)
          have QB := hid (QB.out.alloc (.cells #[.int .i64 6, .int .u32 fr, .int .i64 (x0 * 256 + x1'), .int .u32 to, .int .i64 (x2 * 256 + x3)] 50))
          have k0 := OB.out.cell 0; have k1 := OB.out.cell 1; have k2 := OB.out.cell 2; have k3 := OB.out.cell 3; have k4 := OB.out.cell 4; have k5 := OB.out.cell 5; have k6 := OB.out.cell 6; have k7 := OB.out.cell 7; have k8 := OB.out.cell 8; have k9 := OB.out.cell 9; have k10 := OB.out.cell 10
          have f0 := OF.out.cell 0; have f1 := OF.out.cell 1; have f2 := OF.out.cell 2; have f3 := OF.out.cell 3; have f4 := OF.out.cell 4
          go_wp2_with fail
          have K10 := hid k10; have F2 := hid f2; have F4 := hid f4
          clear k0 k1 k2 k3 k4 k5 k6 k7 k8 k9 k10 f0 f1 f2 f3 f4
          refine wp_region_noPanic ?_
          refine rgn.regionT (R := Only []) (by kernel_rfl) (Only.refl []) (fun _ _ _ => Only.trans) (fun _ _ _ _ _ h => h) (.y 0 (.y 1 (.y 2 (.y 3 (.y 4 (.y 5 (.y 6 (.y 7 (.y 8 (.y 9 (.y 10 (.y 11 (.y 12 (.y 13 (.y 14 (.y 15 (.y 16 (.y 17 (.y 18 (.y 19 (.y 20 (.y 21 (.y 22 (.y 23 (.y 24 (.y 25 (.y 26 (.y 27 (.y 28 (.y 29 (.y 30 (.y 31 (.y 32 (.e 33 (.y 34 (.e 35 .z)))))))))))))))))))))))))))))))))))) (by kernel_rfl) (fun W hWd => ?_)
          have HWd := hid hWd; clear hWd
          have QB := hid (QB.out.eq_drew HWd.out)
          have K10 := hid (show W.cell? _ = some _ from by rw [HWd.out]; exact K10.out)
          have F2 := hid (show W.cell? _ = some _ from by rw [HWd.out]; exact F2.out)
          have F4 := hid (show W.cell? _ = some _ from by rw [HWd.out]; exact F4.out)
          have D0 := hid (show W.cell? _ = some _ from by rw [HWd.out]; exact D0.out)
          have D1 := hid (show W.cell? _ = some _ from by rw [HWd.out]; exact D1.out)
          have D2 := hid (show W.cell? _ = some _ from by rw [HWd.out]; exact D2.out)
          have D3 := hid (show W.cell? _ = some _ from by rw [HWd.out]; exact D3.out)
          refine rgn.Walk.ys (v := ?_) rfl rfl rfl ?_ ?_
          rotate_left 1
          · intro W' hW'
            go_simp
            try with_reducible rfl
          try simp only [Act.put, List.setIfInBounds_toArray, List.set_cons_zero, List.set_cons_succ]
          refine rgn.Walk.ys (v := ?_) rfl rfl rfl ?_ ?_
          rotate_left 1
          · intro W' hW'
            have z2 := hW'.keep F2.out
            go_simp
            try with_reducible rfl
          try simp only [Act.put, List.setIfInBounds_toArray, List.set_cons_zero, List.set_cons_succ]
          refine rgn.Walk.ys (v := ?_) rfl rfl rfl ?_ ?_
          rotate_left 1
          · intro W' hW'
            go_simp
            try with_reducible rfl
          try simp only [Act.put, List.setIfInBounds_toArray, List.set_cons_zero, List.set_cons_succ]
          refine rgn.Walk.ys (v := ?_) rfl rfl rfl ?_ ?_
          rotate_left 1
          · intro W' hW'
            have z10 := hW'.keep K10.out
            go_simp
            try with_reducible rfl
          try simp only [Act.put, List.setIfInBounds_toArray, List.set_cons_zero, List.set_cons_succ]
          refine rgn.Walk.ys (v := ?_) rfl rfl rfl ?_ ?_
          rotate_left 1
          · intro W' hW'
            go_simp
            try with_reducible rfl
          try simp only [Act.put, List.setIfInBounds_toArray, List.set_cons_zero, List.set_cons_succ]
          refine rgn.Walk.ys (v := ?_) rfl rfl rfl ?_ ?_
          rotate_left 1
          · intro W' hW'
            have y0 := hW'.keep D0.out
            go_simp
            try with_reducible rfl
          try simp only [Act.put, List.setIfInBounds_toArray, List.set_cons_zero, List.set_cons_succ]
          refine rgn.Walk.ys (v := ?_) rfl rfl rfl ?_ ?_
          rotate_left 1
          · intro W' hW'
            go_simp
            try with_reducible rfl
          try simp only [Act.put, List.setIfInBounds_toArray, List.set_cons_zero, List.set_cons_succ]
          refine rgn.Walk.ys (v := ?_) rfl rfl rfl ?_ ?_
          rotate_left 1
          · intro W' hW'
            go_simp
            try with_reducible rfl
          try simp only [Act.put, List.setIfInBounds_toArray, List.set_cons_zero, List.set_cons_succ]
          refine rgn.Walk.ys (v := ?_) rfl rfl rfl ?_ ?_
          rotate_left 1
          · intro W' hW'
            go_simp
            try with_reducible rfl
          try simp only [Act.put, List.setIfInBounds_toArray, List.set_cons_zero, List.set_cons_succ]
          refine rgn.Walk.ys (v := ?_) rfl rfl rfl ?_ ?_
          rotate_left 1
          · intro W' hW'
            have z10 := hW'.keep K10.out
            go_simp
            try with_reducible rfl
          try simp only [Act.put, List.setIfInBounds_toArray, List.set_cons_zero, List.set_cons_succ]
          refine rgn.Walk.ys (v := ?_) rfl rfl rfl ?_ ?_
          rotate_left 1
          · intro W' hW'
            go_simp
            try with_reducible rfl
          try simp only [Act.put, List.setIfInBounds_toArray, List.set_cons_zero, List.set_cons_succ]
          refine rgn.Walk.ys (v := ?_) rfl rfl rfl ?_ ?_
          rotate_left 1
          · intro W' hW'
            have y1 := hW'.keep D1.out
            go_simp
            try with_reducible rfl
          try simp only [Act.put, List.setIfInBounds_toArray, List.set_cons_zero, List.set_cons_succ]
          refine rgn.Walk.ys (v := ?_) rfl rfl rfl ?_ ?_
          rotate_left 1
          · intro W' hW'
            go_simp
            try with_reducible rfl
          try simp only [Act.put, List.setIfInBounds_toArray, List.set_cons_zero, List.set_cons_succ]
          refine rgn.Walk.ys (v := ?_) rfl rfl rfl ?_ ?_
          rotate_left 1
          · intro W' hW'
            go_simp
            try with_reducible rfl
          try simp only [Act.put, List.setIfInBounds_toArray, List.set_cons_zero, List.set_cons_succ]
          refine rgn.Walk.ys (v := ?_) rfl rfl rfl ?_ ?_
          rotate_left 1
          · intro W' hW'
            go_simp
            try with_reducible rfl
          try simp only [Act.put, List.setIfInBounds_toArray, List.set_cons_zero, List.set_cons_succ]
          refine rgn.Walk.ys (v := ?_) rfl rfl rfl ?_ ?_
          rotate_left 1
          · intro W' hW'
            go_simp
            try with_reducible rfl
          try simp only [Act.put, List.setIfInBounds_toArray, List.set_cons_zero, List.set_cons_succ]
          refine rgn.Walk.ys (v := ?_) rfl rfl rfl ?_ ?_
          rotate_left 1
          · intro W' hW'
            go_simp
            try with_reducible rfl
          try simp only [Act.put, List.setIfInBounds_toArray, List.set_cons_zero, List.set_cons_succ]
          refine rgn.Walk.ys (v := ?_) rfl rfl rfl ?_ ?_
          rotate_left 1
          · intro W' hW'
            have z4 := hW'.keep F4.out
            go_simp
            try with_reducible rfl
          try simp only [Act.put, List.setIfInBounds_toArray, List.set_cons_zero, List.set_cons_succ]
          refine rgn.Walk.ys (v := ?_) rfl rfl rfl ?_ ?_
          rotate_left 1
          · intro W' hW'
            go_simp
            try with_reducible rfl
          try simp only [Act.put, List.setIfInBounds_toArray, List.set_cons_zero, List.set_cons_succ]
          refine rgn.Walk.ys (v := ?_) rfl rfl rfl ?_ ?_
          rotate_left 1
          · intro W' hW'
            have z10 := hW'.keep K10.out
            go_simp
            try with_reducible rfl
          try simp only [Act.put, List.setIfInBounds_toArray, List.set_cons_zero, List.set_cons_succ]
          refine rgn.Walk.ys (v := ?_) rfl rfl rfl ?_ ?_
          rotate_left 1
          · intro W' hW'
            go_simp
            try with_reducible rfl
          try simp only [Act.put, List.setIfInBounds_toArray, List.set_cons_zero, List.set_cons_succ]
          refine rgn.Walk.ys (v := ?_) rfl rfl rfl ?_ ?_
          rotate_left 1
          · intro W' hW'
            have y2 := hW'.keep D2.out
            go_simp
            try with_reducible rfl
          try simp only [Act.put, List.setIfInBounds_toArray, List.set_cons_zero, List.set_cons_succ]
          refine rgn.Walk.ys (v := ?_) rfl rfl rfl ?_ ?_
          rotate_left 1
          · intro W' hW'
            go_simp
            try with_reducible rfl
          try simp only [Act.put, List.setIfInBounds_toArray, List.set_cons_zero, List.set_cons_succ]
          refine rgn.Walk.ys (v := ?_) rfl rfl rfl ?_ ?_
          rotate_left 1
          · intro W' hW'
            go_simp
            try with_reducible rfl
          try simp only [Act.put, List.setIfInBounds_toArray, List.set_cons_zero, List.set_cons_succ]
          refine rgn.Walk.ys (v := ?_) rfl rfl rfl ?_ ?_
          rotate_left 1
          · intro W' hW'
            go_simp
            try with_reducible rfl
          try simp only [Act.put, List.setIfInBounds_toArray, List.set_cons_zero, List.set_cons_succ]
          refine rgn.Walk.ys (v := ?_) rfl rfl rfl ?_ ?_
          rotate_left 1
          · intro W' hW'
            have z10 := hW'.keep K10.out
            go_simp
            try with_reducible rfl
          try simp only [Act.put, List.setIfInBounds_toArray, List.set_cons_zero, List.set_cons_succ]
          refine rgn.Walk.ys (v := ?_) rfl rfl rfl ?_ ?_
          rotate_left 1
          · intro W' hW'
            go_simp
            try with_reducible rfl
          try simp only [Act.put, List.setIfInBounds_toArray, List.set_cons_zero, List.set_cons_succ]
          refine rgn.Walk.ys (v := ?_) rfl rfl rfl ?_ ?_
          rotate_left 1
          · intro W' hW'
            have y3 := hW'.keep D3.out
            go_simp
            try with_reducible rfl
          try simp only [Act.put, List.setIfInBounds_toArray, List.set_cons_zero, List.set_cons_succ]
          refine rgn.Walk.ys (v := ?_) rfl rfl rfl ?_ ?_
          rotate_left 1
          · intro W' hW'
            go_simp
            try with_reducible rfl
          try simp only [Act.put, List.setIfInBounds_toArray, List.set_cons_zero, List.set_cons_succ]
          refine rgn.Walk.ys (v := ?_) rfl rfl rfl ?_ ?_
          rotate_left 1
          · intro W' hW'
            go_simp
            try with_reducible rfl
          try simp only [Act.put, List.setIfInBounds_toArray, List.set_cons_zero, List.set_cons_succ]
          refine rgn.Walk.ys (v := ?_) rfl rfl rfl ?_ ?_
          rotate_left 1
          · intro W' hW'
            go_simp
            try with_reducible rfl
          try simp only [Act.put, List.setIfInBounds_toArray, List.set_cons_zero, List.set_cons_succ]
          refine rgn.Walk.ys (v := ?_) rfl rfl rfl ?_ ?_
          rotate_left 1
          · intro W' hW'
            go_simp
            try with_reducible rfl
          try simp only [Act.put, List.setIfInBounds_toArray, List.set_cons_zero, List.set_cons_succ]
          refine rgn.Walk.ys (v := ?_) rfl rfl rfl ?_ ?_
          rotate_left 1
          · intro W' hW'
            go_simp
            try with_reducible rfl
          try simp only [Act.put, List.setIfInBounds_toArray, List.set_cons_zero, List.set_cons_succ]
          refine rgn.Walk.es ?_
          refine rgn.stepE rfl rfl (fun K hK => ?_)
          go_simp
          refine (ev.known _).mono ?_
          rintro x w9 ⟨rfl, q9⟩
          refine hK _ _ q9 ?_
          have QB := hid (QB.out.trans q9)
          clear hK K q9
          try simp only [Act.put, List.setIfInBounds_toArray, List.set_cons_zero, List.set_cons_succ]
          refine rgn.Walk.ys (v := ?_) rfl rfl rfl ?_ ?_
          rotate_left 1
          · intro W' hW'
            go_simp
            try with_reducible rfl
          try simp only [Act.put, List.setIfInBounds_toArray, List.set_cons_zero, List.set_cons_succ]
          refine rgn.Walk.es ?_
          refine rgn.stepE rfl rfl (fun K hK => ?_)
          go_simp
          refine hK _ _ ((Only.refl []) _) ?_
          clear hK K
          try simp only [Act.put, List.setIfInBounds_toArray, List.set_cons_zero, List.set_cons_succ]
          refine rgn.Walk.zs (NoPanic.normal ?_)
          go_wp2
          go_ret
          exact ⟨rfl, QB.out⟩

        · by_cases c4 : pr = 17
          · skip
            have OBz := hid OB.out; have QBz := hid QB.out
            clear OB QB
            subst c1
            subst c4
            obtain ⟨db, doff, hdA, hdlt, hdc'⟩ := HD.out.at_ (by omega)
            subst hdA
            have OB := OBz; have QB := QBz
            clear OBz QBz
            obtain ⟨hfp, htp⟩ := ports_yes (off := 0) (pr := 17) (hh := hh) (d := d) (Q := Q) QL.out QD.out rfl (by rw [HDL.out]; omega) (.inr rfl)
            rw [hfp, htp]
            clear hfp htp
            obtain ⟨x0, hx0⟩ : ∃ x0, d.getD 0 0 = x0 := ⟨_, rfl⟩
            obtain ⟨x1', hx1⟩ : ∃ x1', d.getD 1 0 = x1' := ⟨_, rfl⟩
            obtain ⟨x2, hx2⟩ : ∃ x2, d.getD 2 0 = x2 := ⟨_, rfl⟩
            obtain ⟨x3, hx3⟩ : ∃ x3, d.getD 3 0 = x3 := ⟨_, rfl⟩
            have b0 := u8Bd (HD.out.getD_wf 0 (by omega)); have b1 := u8Bd (HD.out.getD_wf 1 (by omega)); have b2' := u8Bd (HD.out.getD_wf 2 (by omega)); have b3 := u8Bd (HD.out.getD_wf 3 (by omega))
            have QD' := QB.out.trans ((Only.refl [] w5).alloc (.cells #[.int .i64 17, .int .u32 fr, .int .i64 (x0 * 256 + x1'), .int .u32 to, .int .i64 (x2 * 256 + x3)] 50))
            have y00 := QD'.keep (hdc' 0 (by omega)); rw [Nat.add_zero] at y00; have D0 := hid y00; clear y00; have D1 := hid (QD'.keep (hdc' 1 (by omega))); have D2 := hid (QD'.keep (hdc' 2 (by omega))); have D3 := hid (QD'.keep (hdc' 3 (by omega)))
            clear QD' hdc'
            rw [hx0] at D0 b0; rw [hx1] at D1 b1; rw [hx2] at D2 b2'; rw [hx3] at D3 b3
            rw [hx0, hx1, hx2, hx3]
            clear hx0 hx1 hx2 hx3
            have g0 : 0 < dn := by omega
            have g1 : (1 : Int) < (dn : Int) := by omega
            have g2 : (2 : Int) < (dn : Int) := by omega
            have g3 : (3 : Int) < (dn : Int) := by omega
            have e1 : IntKind.i64.wrap (x0 * 256 + x1') = x0 * 256 + x1' := i64_in _ (by omega)
            have e2 : IntKind.i64.wrap (x2 * 256 + x3) = x2 * 256 + x3 := i64_in _ (by omega)
            have e3 : IntKind.i64.wrap (x0 * 256) = x0 * 256 := i64_in _ (by omega)
            have e4 : IntKind.i64.wrap (x2 * 256) = x2 * 256 := i64_in _ (by omega)
            have e5 : IntKind.i64.wrap x0 = x0 := i64_in _ (by omega)
            have e6 : IntKind.i64.wrap x1' = x1' := i64_in _ (by omega)
            have e7 : IntKind.i64.wrap x2 = x2 := i64_in _ (by omega)
            have e8 : IntKind.i64.wrap x3 = x3 := i64_in _ (by omega)
            have OB := hid (OB.out.alloc (.cells #[.int .i64 17, .int .u32 fr, .int .i64 (x0 * 256 + x1'), .int .u32 to, .int .i64 (x2 * 256 + x3)] 50))
            have OF : Hid (Ob (w5.alloc (.cells #[.int .i64 17, .int .u32 fr, .int .i64 (x0 * 256 + x1'), .int .u32 to, .int .i64 (x2 * 256 + x3)] 50)) w5.heap.size 50 #[.int .i64 17, .int .u32 fr, .int .i64 (x0 * 256 + x1'), .int .u32 to, .int .i64 (x2 * 256 + x3)]) := hid (Ob.new _ _ _)
            have QB := hid (QB.out.alloc (.cells #[.int .i64 17, .int .u32 fr, .int .i64 (x0 * 256 + x1'), .int .u32 to, .int .i64 (x2 * 256 + x3)] 50))
            have k0 := OB.out.cell 0; have k1 := OB.out.cell 1; have k2 := OB.out.cell 2; have k3 := OB.out.cell 3; have k4 := OB.out.cell 4; have k5 := OB.out.cell 5; have k6 := OB.out.cell 6; have k7 := OB.out.cell 7; have k8 := OB.out.cell 8; have k9 := OB.out.cell 9; have k10 := OB.out.cell 10
            have f0 := OF.out.cell 0; have f1 := OF.out.cell 1; have f2 := OF.out.cell 2; have f3 := OF.out.cell 3; have f4 := OF.out.cell 4
            go_wp2_with fail
            have K10 := hid k10; have F2 := hid f2; have F4 := hid f4
            clear k0 k1 k2 k3 k4 k5 k6 k7 k8 k9 k10 f0 f1 f2 f3 f4
            refine wp_region_noPanic ?_
            refine rgn.regionT (R := Only []) (by kernel_rfl) (Only.refl []) (fun _ _ _ => Only.trans) (fun _ _ _ _ _ h => h) (.y 0 (.y 1 (.y 2 (.y 3 (.y 4 (.y 5 (.y 6 (.y 7 (.y 8 (.y 9 (.y 10 (.y 11 (.y 12 (.y 13 (.y 14 (.y 15 (.y 16 (.y 17 (.y 18 (.y 19 (.y 20 (.y 21 (.y 22 (.y 23 (.y 24 (.y 25 (.y 26 (.y 27 (.y 28 (.y 29 (.y 30 (.y 31 (.y 32 (.e 33 (.y 34 (.e 35 .z)))))))))))))))))))))))))))))))))))) (by kernel_rfl) (fun W hWd => ?_)
            have HWd := hid hWd; clear hWd
            have QB := hid (QB.out.eq_drew HWd.out)
            have K10 := hid (show W.cell? _ = some _ from by rw [HWd.out]; exact K10.out)
            have F2 := hid (show W.cell? _ = some _ from by rw [HWd.out]; exact F2.out)
            have F4 := hid (show W.cell? _ = some _ from by rw [HWd.out]; exact F4.out)
            have D0 := hid (show W.cell? _ = some _ from by rw [HWd.out]; exact D0.out)
            have D1 := hid (show W.cell? _ = some _ from by rw [HWd.out]; exact D1.out)
            have D2 := hid (show W.cell? _ = some _ from by rw [HWd.out]; exact D2.out)
            have D3 := hid (show W.cell? _ = some _ from by rw [HWd.out]; exact D3.out)
            refine rgn.Walk.ys (v := ?_) rfl rfl rfl ?_ ?_
            rotate_left 1
            · intro W' hW'
              go_simp
              try with_reducible rfl
            try simp only [Act.put, List.setIfInBounds_toArray, List.set_cons_zero, List.set_cons_succ]
            refine rgn.Walk.ys (v := ?_) rfl rfl rfl ?_ ?_
            rotate_left 1
            · intro W' hW'
              have z2 := hW'.keep F2.out
              go_simp
              try with_reducible rfl
            try simp only [Act.put, List.setIfInBounds_toArray, List.set_cons_zero, List.set_cons_succ]
            refine rgn.Walk.ys (v := ?_) rfl rfl rfl ?_ ?_
            rotate_left 1
            · intro W' hW'
              go_simp
              try with_reducible rfl
            try simp only [Act.put, List.setIfInBounds_toArray, List.set_cons_zero, List.set_cons_succ]
            refine rgn.Walk.ys (v := ?_) rfl rfl rfl ?_ ?_
            rotate_left 1
            · intro W' hW'
              have z10 := hW'.keep K10.out
              go_simp
              try with_reducible rfl
            try simp only [Act.put, List.setIfInBounds_toArray, List.set_cons_zero, List.set_cons_succ]
            refine rgn.Walk.ys (v := ?_) rfl rfl rfl ?_ ?_
            rotate_left 1
            · intro W' hW'
              go_simp
              try with_reducible rfl
            try simp only [Act.put, List.setIfInBounds_toArray, List.set_cons_zero, List.set_cons_succ]
            refine rgn.Walk.ys (v := ?_) rfl rfl rfl ?_ ?_
            rotate_left 1
            · intro W' hW'
              have y0 := hW'.keep D0.out
              go_simp
              try with_reducible rfl
            try simp only [Act.put, List.setIfInBounds_toArray, List.set_cons_zero, List.set_cons_succ]
            refine rgn.Walk.ys (v := ?_) rfl rfl rfl ?_ ?_
            rotate_left 1
            · intro W' hW'
              go_simp
              try with_reducible rfl
            try simp only [Act.put, List.setIfInBounds_toArray, List.set_cons_zero, List.set_cons_succ]
            refine rgn.Walk.ys (v := ?_) rfl rfl rfl ?_ ?_
            rotate_left 1
            · intro W' hW'
              go_simp
              try with_reducible rfl
            try simp only [Act.put, List.setIfInBounds_toArray, List.set_cons_zero, List.set_cons_succ]
            refine rgn.Walk.ys (v := ?_) rfl rfl rfl ?_ ?_
            rotate_left 1
            · intro W' hW'
              go_simp
              try with_reducible rfl
            try simp only [Act.put, List.setIfInBounds_toArray, List.set_cons_zero, List.set_cons_succ]
            refine rgn.Walk.ys (v := ?_) rfl rfl rfl ?_ ?_
            rotate_left 1
            · intro W' hW'
              have z10 := hW'.keep K10.out
              go_simp
              try with_reducible rfl
            try simp only [Act.put, List.setIfInBounds_toArray, List.set_cons_zero, List.set_cons_succ]
            refine rgn.Walk.ys (v := ?_) rfl rfl rfl ?_ ?_
            rotate_left 1
            · intro W' hW'
              go_simp
              try with_reducible rfl
            try simp only [Act.put, List.setIfInBounds_toArray, List.set_cons_zero, List.set_cons_succ]
            refine rgn.Walk.ys (v := ?_) rfl rfl rfl ?_ ?_
            rotate_left 1
            · intro W' hW'
              have y1 := hW'.keep D1.out
              go_simp
              try with_reducible rfl
            try simp only [Act.put, List.setIfInBounds_toArray, List.set_cons_zero, List.set_cons_succ]
            refine rgn.Walk.ys (v := ?_) rfl rfl rfl ?_ ?_
            rotate_left 1
            · intro W' hW'
              go_simp
              try with_reducible rfl
            try simp only [Act.put, List.setIfInBounds_toArray, List.set_cons_zero, List.set_cons_succ]
            refine rgn.Walk.ys (v := ?_) rfl rfl rfl ?_ ?_
            rotate_left 1
            · intro W' hW'
              go_simp
              try with_reducible rfl
            try simp only [Act.put, List.setIfInBounds_toArray, List.set_cons_zero, List.set_cons_succ]
            refine rgn.Walk.ys (v := ?_) rfl rfl rfl ?_ ?_
            rotate_left 1
            · intro W' hW'
              go_simp
              try with_reducible rfl
            try simp only [Act.put, List.setIfInBounds_toArray, List.set_cons_zero, List.set_cons_succ]
            refine rgn.Walk.ys (v := ?_) rfl rfl rfl ?_ ?_
            rotate_left 1
            · intro W' hW'
              go_simp
              try with_reducible rfl
            try simp only [Act.put, List.setIfInBounds_toArray, List.set_cons_zero, List.set_cons_succ]
            refine rgn.Walk.ys (v := ?_) rfl rfl rfl ?_ ?_
            rotate_left 1
            · intro W' hW'
              go_simp
              try with_reducible rfl
            try simp only [Act.put, List.setIfInBounds_toArray, List.set_cons_zero, List.set_cons_succ]
            refine rgn.Walk.ys (v := ?_) rfl rfl rfl ?_ ?_
            rotate_left 1
            · intro W' hW'
              have z4 := hW'.keep F4.out
              go_simp
              try with_reducible rfl
            try simp only [Act.put, List.setIfInBounds_toArray, List.set_cons_zero, List.set_cons_succ]
            refine rgn.Walk.ys (v := ?_) rfl rfl rfl ?_ ?_
            rotate_left 1
            · intro W' hW'
              go_simp
              try with_reducible rfl
            try simp only [Act.put, List.setIfInBounds_toArray, List.set_cons_zero, List.set_cons_succ]
            refine rgn.Walk.ys (v := ?_) rfl rfl rfl ?_ ?_
            rotate_left 1
            · intro W' hW'
              have z10 := hW'.keep K10.out
              go_simp
              try with_reducible rfl
            try simp only [Act.put, List.setIfInBounds_toArray, List.set_cons_zero, List.set_cons_succ]
            refine rgn.Walk.ys (v := ?_) rfl rfl rfl ?_ ?_
            rotate_left 1
            · intro W' hW'
              go_simp
              try with_reducible rfl
            try simp only [Act.put, List.setIfInBounds_toArray, List.set_cons_zero, List.set_cons_succ]
            refine rgn.Walk.ys (v := ?_) rfl rfl rfl ?_ ?_
            rotate_left 1
            · intro W' hW'
              have y2 := hW'.keep D2.out
              go_simp
              try with_reducible rfl
            try simp only [Act.put, List.setIfInBounds_toArray, List.set_cons_zero, List.set_cons_succ]
            refine rgn.Walk.ys (v := ?_) rfl rfl rfl ?_ ?_
            rotate_left 1
            · intro W' hW'
              go_simp
              try with_reducible rfl
            try simp only [Act.put, List.setIfInBounds_toArray, List.set_cons_zero, List.set_cons_succ]
            refine rgn.Walk.ys (v := ?_) rfl rfl rfl ?_ ?_
            rotate_left 1
            · intro W' hW'
              go_simp
              try with_reducible rfl
            try simp only [Act.put, List.setIfInBounds_toArray, List.set_cons_zero, List.set_cons_succ]
            refine rgn.Walk.ys (v := ?_) rfl rfl rfl ?_ ?_
            rotate_left 1
            · intro W' hW'
              go_simp
              try with_reducible rfl
            try simp only [Act.put, List.setIfInBounds_toArray, List.set_cons_zero, List.set_cons_succ]
            refine rgn.Walk.ys (v := ?_) rfl rfl rfl ?_ ?_
            rotate_left 1
            · intro W' hW'
              have z10 := hW'.keep K10.out
              go_simp
              try with_reducible rfl
            try simp only [Act.put, List.setIfInBounds_toArray, List.set_cons_zero, List.set_cons_succ]
            refine rgn.Walk.ys (v := ?_) rfl rfl rfl ?_ ?_
            rotate_left 1
            · intro W' hW'
              go_simp
              try with_reducible rfl
            try simp only [Act.put, List.setIfInBounds_toArray, List.set_cons_zero, List.set_cons_succ]
            refine rgn.Walk.ys (v := ?_) rfl rfl rfl ?_ ?_
            rotate_left 1
            · intro W' hW'
              have y3 := hW'.keep D3.out
              go_simp
              try with_reducible rfl
            try simp only [Act.put, List.setIfInBounds_toArray, List.set_cons_zero, List.set_cons_succ]
            refine rgn.Walk.ys (v := ?_) rfl rfl rfl ?_ ?_
            rotate_left 1
            · intro W' hW'
              go_simp
              try with_reducible rfl
            try simp only [Act.put, List.setIfInBounds_toArray, List.set_cons_zero, List.set_cons_succ]
            refine rgn.Walk.ys (v := ?_) rfl rfl rfl ?_ ?_
            rotate_left 1
            · intro W' hW'
              go_simp
              try with_reducible rfl
            try simp only [Act.put, List.setIfInBounds_toArray, List.set_cons_zero, List.set_cons_succ]
            refine rgn.Walk.ys (v := ?_) rfl rfl rfl ?_ ?_
            rotate_left 1
            · intro W' hW'
              go_simp
              try with_reducible rfl
            try simp only [Act.put, List.setIfInBounds_toArray, List.set_cons_zero, List.set_cons_succ]
            refine rgn.Walk.ys (v := ?_) rfl rfl rfl ?_ ?_
            rotate_left 1
            · intro W' hW'
              go_simp
              try with_reducible rfl
            try simp only [Act.put, List.setIfInBounds_toArray, List.set_cons_zero, List.set_cons_succ]
            refine rgn.Walk.ys (v := ?_) rfl rfl rfl ?_ ?_
            rotate_left 1
            · intro W' hW'
              go_simp
              try with_reducible rfl
            try simp only [Act.put, List.setIfInBounds_toArray, List.set_cons_zero, List.set_cons_succ]
            refine rgn.Walk.es ?_
            refine rgn.stepE rfl rfl (fun K hK => ?_)
            go_simp
            refine (ev.known _).mono ?_
            rintro x w9 ⟨rfl, q9⟩
            refine hK _ _ q9 ?_
            have QB := hid (QB.out.trans q9)
            clear hK K q9
            try simp only [Act.put, List.setIfInBounds_toArray, List.set_cons_zero, List.set_cons_succ]
            refine rgn.Walk.ys (v := ?_) rfl rfl rfl ?_ ?_
            rotate_left 1
            · intro W' hW'
              go_simp
              try with_reducible rfl
            try simp only [Act.put, List.setIfInBounds_toArray, List.set_cons_zero, List.set_cons_succ]
            refine rgn.Walk.es ?_
            refine rgn.stepE rfl rfl (fun K hK => ?_)
            go_simp
            refine hK _ _ ((Only.refl []) _) ?_
            clear hK K
            try simp only [Act.put, List.setIfInBounds_toArray, List.set_cons_zero, List.set_cons_succ]
            refine rgn.Walk.zs (NoPanic.normal ?_)
            go_wp2
            go_ret
            exact ⟨rfl, QB.out⟩

          · have c3b : (pr == 6) = false := by simpa using c3
            have c4b : (pr == 17) = false := by simpa using c4
            obtain ⟨hfp, htp⟩ := ports_no (off := off) (pr := pr) (hh := hh) (d := d) (Q := Q) hoff.out H8.out QL.out (by rw [HDL.out]; exact fun h => h.2.2.elim c3 c4)
            rw [hfp, htp]
            clear hfp htp
            have OB := hid (OB.out.alloc (.cells #[.int .i64 pr, .int .u32 fr, .int .i64 0, .int .u32 to, .int .i64 0] 50))
            have OF : Hid (Ob (w5.alloc (.cells #[.int .i64 pr, .int .u32 fr, .int .i64 0, .int .u32 to, .int .i64 0] 50)) w5.heap.size 50 #[.int .i64 pr, .int .u32 fr, .int .i64 0, .int .u32 to, .int .i64 0]) := hid (Ob.new _ _ _)
            have QB := hid (QB.out.alloc (.cells #[.int .i64 pr, .int .u32 fr, .int .i64 0, .int .u32 to, .int .i64 0] 50))
            have k0 := OB.out.cell 0; have k1 := OB.out.cell 1; have k2 := OB.out.cell 2; have k3 := OB.out.cell 3; have k4 := OB.out.cell 4; have k5 := OB.out.cell 5; have k6 := OB.out.cell 6; have k7 := OB.out.cell 7; have k8 := OB.out.cell 8; have k9 := OB.out.cell 9; have k10 := OB.out.cell 10
            have f0 := OF.out.cell 0; have f1 := OF.out.cell 1; have f2 := OF.out.cell 2; have f3 := OF.out.cell 3; have f4 := OF.out.cell 4
            go_wp2_with fail
            try any_goals (exfalso; omega)
            refine (ev.known _).mono ?_
            rintro x w9 ⟨rfl, q9⟩
            have QB := hid (QB.out.trans q9)
            go_wp2
            go_ret
            exact ⟨rfl, QB.out⟩

      · have c2i : ¬ (4 : Int) ≤ (dn : Int) := by omega
        obtain ⟨hfp, htp⟩ := ports_no (off := off) (pr := pr) (hh := hh) (d := d) (Q := Q) hoff.out H8.out QL.out (by rw [HDL.out]; exact fun h => c2' h.2.1)
        rw [hfp, htp]
        clear hfp htp
        have OB := hid (OB.out.alloc (.cells #[.int .i64 pr, .int .u32 fr, .int .i64 0, .int .u32 to, .int .i64 0] 50))
        have OF : Hid (Ob (w5.alloc (.cells #[.int .i64 pr, .int .u32 fr, .int .i64 0, .int .u32 to, .int .i64 0] 50)) w5.heap.size 50 #[.int .i64 pr, .int .u32 fr, .int .i64 0, .int .u32 to, .int .i64 0]) := hid (Ob.new _ _ _)
        have QB := hid (QB.out.alloc (.cells #[.int .i64 pr, .int .u32 fr, .int .i64 0, .int .u32 to, .int .i64 0] 50))
        have k0 := OB.out.cell 0; have k1 := OB.out.cell 1; have k2 := OB.out.cell 2; have k3 := OB.out.cell 3; have k4 := OB.out.cell 4; have k5 := OB.out.cell 5; have k6 := OB.out.cell 6; have k7 := OB.out.cell 7; have k8 := OB.out.cell 8; have k9 := OB.out.cell 9; have k10 := OB.out.cell 10
        have f0 := OF.out.cell 0; have f1 := OF.out.cell 1; have f2 := OF.out.cell 2; have f3 := OF.out.cell 3; have f4 := OF.out.cell 4
        go_wp2_with fail
        try any_goals (exfalso; omega)
        refine (ev.known _).mono ?_
        rintro x w9 ⟨rfl, q9⟩
        have QB := hid (QB.out.trans q9)
        go_wp2
        go_ret
        exact ⟨rfl, QB.out⟩

    · skip
      obtain ⟨hfp, htp⟩ := ports_no (off := off) (pr := pr) (hh := hh) (d := d) (Q := Q) hoff.out H8.out QL.out (by rw [HDL.out]; exact fun h => c1 h.1)
      rw [hfp, htp]
      clear hfp htp
      have OB := hid (OB.out.alloc (.cells #[.int .i64 pr, .int .u32 fr, .int .i64 0, .int .u32 to, .int .i64 0] 50))
      have OF : Hid (Ob (w5.alloc (.cells #[.int .i64 pr, .int .u32 fr, .int .i64 0, .int .u32 to, .int .i64 0] 50)) w5.heap.size 50 #[.int .i64 pr, .int .u32 fr, .int .i64 0, .int .u32 to, .int .i64 0]) := hid (Ob.new _ _ _)
      have QB := hid (QB.out.alloc (.cells #[.int .i64 pr, .int .u32 fr, .int .i64 0, .int .u32 to, .int .i64 0] 50))
      have k0 := OB.out.cell 0; have k1 := OB.out.cell 1; have k2 := OB.out.cell 2; have k3 := OB.out.cell 3; have k4 := OB.out.cell 4; have k5 := OB.out.cell 5; have k6 := OB.out.cell 6; have k7 := OB.out.cell 7; have k8 := OB.out.cell 8; have k9 := OB.out.cell 9; have k10 := OB.out.cell 10
      have f0 := OF.out.cell 0; have f1 := OF.out.cell 1; have f2 := OF.out.cell 2; have f3 := OF.out.cell 3; have f4 := OF.out.cell 4
      go_wp2_with fail
      try any_goals (exfalso; omega)
      refine (ev.known _).mono ?_
      rintro x w9 ⟨rfl, q9⟩
      have QB := hid (QB.out.trans q9)
      go_wp2
      go_ret
      exact ⟨rfl, QB.out⟩

  · have HO := hid ho; have HCM := hid hcm; have HNC := hid hnc; have HC := hid hc
    clear hc ho hcm hnc
    have k0 := OB.out.cell 0; have k1 := OB.out.cell 1; have k2 := OB.out.cell 2; have k3 := OB.out.cell 3; have k4 := OB.out.cell 4; have k5 := OB.out.cell 5; have k6 := OB.out.cell 6; have k7 := OB.out.cell 7; have k8 := OB.out.cell 8; have k9 := OB.out.cell 9; have k10 := OB.out.cell 10
    go_enter Try.func7, Try.ntmps7
    go_wp2_with fail
    refine (quoteE _ sv pid off lf pr wh mo fr to oA on oc dA dn dc o (HO.out.only_nil QB.out) HNC.out HCM.out (by omega) (by omega) HC.out).mono ?_
    rintro x w1 ⟨rfl, o1⟩
    have OB := hid (OB.out.only o1 (by simp)); have QB := hid (QB.out.trans o1)
    clear o1 k0 k1 k2 k3 k4 k5 k6 k7 k8 k9 k10
    have k0 := OB.out.cell 0; have k1 := OB.out.cell 1; have k2 := OB.out.cell 2; have k3 := OB.out.cell 3; have k4 := OB.out.cell 4; have k5 := OB.out.cell 5; have k6 := OB.out.cell 6; have k7 := OB.out.cell 7; have k8 := OB.out.cell 8; have k9 := OB.out.cell 9; have k10 := OB.out.cell 10
    go_wp2_with fail
    refine (rquoteE _ sv pid off lf pr wh mo fr to oA on oc dA dn dc o (HO.out.only_nil QB.out) HNC.out HCM.out (by omega) (by omega) HC.out).mono ?_
    rintro x w2 ⟨rfl, o2⟩
    have OB := hid (OB.out.only o2 (by simp)); have QB := hid (QB.out.trans o2)
    clear o2 k0 k1 k2 k3 k4 k5 k6 k7 k8 k9 k10
    go_wp2_with fail
    refine (hlp.same _ none none 0 0 0 0 [] [] (Rd.nil _ _ _) (Rd.nil _ _ _) (by decide) (by decide)).mono ?_
    rintro x w3 ⟨rfl, m3, hw3⟩
    have o3 : Only [] w2 w3 := by rw [hw3]; exact (Only.refl [] _).drewN m3
    clear hw3
    have QB := hid (QB.out.trans o3)
    go_wp2_with fail
    refine (ev.known _).mono ?_
    rintro x w9 ⟨rfl, q9⟩
    have QB := hid (QB.out.trans q9)
    go_wp2
    go_ret
    exact ⟨rfl, QB.out⟩
end Go.Proofs.Ytekanilgeigddaa.ip
