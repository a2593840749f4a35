/-
  Chapter 7 (frag): the law FragFits, by a walk of its text. Conditions: none but those typed.
-/
import Derived.Test.YtngaolagifgfjaaFrD
import Derived.Test.YtngaolagifgfjaaEvKf7
namespace Go.Proofs.Ytngaolagifgfjaa.ip
set_option linter.unusedVariables false
set_option linter.unusedSimpArgs false
open Go.ChangeShapes Go.WideShapes Go.ChangeAt Go.RowKit Go.IntWalk Go.Lib
theorem whole_at {off : Int} {mo : Bool} {m : Nat} {d : List Int} {M : List Pk} (h : Whole off mo m d M) (k : Nat) (hk : k < M.length) : OkP off m M k (M.getD k pk0) ∧ (k + 1 < M.length → (M.getD k pk0).mo = true ∧ (M.getD k pk0).d.length % 8 = 0) ∧ (k + 1 = M.length → (M.getD k pk0).mo = mo) := by
  obtain ⟨M0, q, rfl, hi, hq, hm, _⟩ := h
  have hl : (M0 ++ [q]).length = M0.length + 1 := by simp
  by_cases hkm : k < M0.length
  · have e : (M0 ++ [q]).getD k pk0 = M0.getD k pk0 := by rw [List.getD_eq_getElem?_getD, List.getD_eq_getElem?_getD, List.getElem?_append_left hkm]
    have e2 : (M0 ++ [q]).take k = M0.take k := List.take_append_of_le_length (by omega)
    rw [e]
    unfold OkP
    rw [e2]
    have h9 := hi k hkm
    exact ⟨h9.1, fun _ => h9.2, fun h8 => by omega⟩
  · have hk2 : k = M0.length := by omega
    subst hk2
    have e : (M0 ++ [q]).getD M0.length pk0 = q := by rw [List.getD_eq_getElem?_getD, List.getElem?_append_right (Nat.le_refl _)]; simp
    rw [e]
    exact ⟨hq, fun h8 => by omega, fun _ => hm⟩
theorem pk_mem (L : List Pk) (k : Nat) (h : k < L.length) : L.getD k pk0 ∈ L := by
  rw [List.getD_eq_getElem?_getD, List.getElem?_eq_getElem h]; exact List.getElem_mem h
theorem pk_take (L : List Pk) (k : Nat) (h : k < L.length) : L.take (k + 1) = L.take k ++ [L.getD k pk0] := by
  rw [List.take_succ_eq_append_getElem h, List.getD_eq_getElem?_getD, List.getElem?_eq_getElem h]; rfl
theorem dat_le (M : List Pk) (k : Nat) : (dat (M.take k)).length ≤ (dat M).length := by
  have h : dat M = dat (M.take k) ++ dat (M.drop k) := by
    unfold dat; rw [← List.flatMap_append, List.take_append_drop]
  rw [h, List.length_append]; omega
theorem encP_len (sv pid off lf pr : Int) (wh mo : Bool) (fr to : Int) (o d : List Int) : (encP sv pid off lf pr wh mo fr to o d).length = hl o.length + d.length := by
  unfold encP; rw [List.length_append, hdr_len]
def LngE (dn on : Nat) (w : World) (x : Ending) (w' : World) : Prop := ∃ q, x = .returned (.bool q) ∧ Only [] w w' ∧ (q = false → dn ≤ 6000 ∧ on ≤ 100)
theorem flong1 (w : World) (sv pid : Int) (wh mo : Bool) (off lf pr fr to : Int) (oA : Option Addr) (on oc : Nat) (dA : Option Addr) (dn dc : Nat) :
    Calls Try.prog 11 #[.agg #[.int .i64 sv, .int .i64 pid, .bool wh, .bool mo, .int .i64 off, .int .i64 lf, .int .i64 pr, .int .u32 fr, .int .u32 to, .slice oA on oc, .slice dA dn dc]] w (LngE dn on w) := by
  have Q0 : Hid (Only [] w (w.alloc (.cells #[.int .i64 sv, .int .i64 pid, .bool wh, .bool mo, .int .i64 off, .int .i64 lf, .int .i64 pr, .int .u32 fr, .int .u32 to, .slice oA on oc, .slice dA dn dc] 26))) := hid ((Only.refl [] w).alloc _)
  by_cases h1 : (6000 : Int) < (dn : Int)
  · go_enter Try.func11, Try.ntmps11
    go_wp2_with fail
    go_ret
    exact ⟨true, rfl, Q0.out, fun h => by cases h⟩
  · by_cases h2 : (100 : Int) < (on : Int)
    · go_enter Try.func11, Try.ntmps11
      go_wp2_with fail
      go_ret
      exact ⟨true, by first | rfl | simp [h2], Q0.out, fun h => by cases h⟩
    · go_enter Try.func11, Try.ntmps11
      go_wp2_with fail
      go_ret
      exact ⟨false, by first | rfl | simp [h2], Q0.out, fun _ => by omega⟩
set_option maxRecDepth 100000 in
set_option maxHeartbeats 16000000 in
theorem fits (w : World) (sv pid : Int) (wh mo : Bool) (off lf pr fr to : Int) (oA : Option Addr) (on oc : Nat) (dA : Option Addr) (dn dc : Nat) (o d : List Int) (m : Int) (ho : Rd .u8 w oA on o) (hoc : oA = none → oc = 0) (hnc : on ≤ oc) (hcm : oc ≤ maxLen) (hd : Rd .u8 w dA dn d) (hdc : dA = none → dc = 0) (hdnc : dn ≤ dc) (hdcm : dc ≤ maxLen) :
    Calls Try.prog 4 #[.agg #[.int .i64 sv, .int .i64 pid, .bool wh, .bool mo, .int .i64 off, .int .i64 lf, .int .i64 pr, .int .u32 fr, .int .u32 to, .slice oA on oc, .slice dA dn dc], .int .i64 m] w fun x w' => x = .returned (.bool true) ∧ Only [] w w' := by
  have Hdn := hid hd.len
  obtain ⟨W0, hW0⟩ : ∃ W0, w.alloc (.cells #[.int .i64 sv, .int .i64 pid, .bool wh, .bool mo, .int .i64 off, .int .i64 lf, .int .i64 pr, .int .u32 fr, .int .u32 to, .slice oA on oc, .slice dA dn dc] 26) = W0 := ⟨_, rfl⟩
  have C0 : Hid (Ob W0 w.heap.size 26 #[.int .i64 sv, .int .i64 pid, .bool wh, .bool mo, .int .i64 off, .int .i64 lf, .int .i64 pr, .int .u32 fr, .int .u32 to, .slice oA on oc, .slice dA dn dc]) := hid (by rw [← hW0]; exact Ob.new _ _ _)
  have Q0 : Hid (Only [] w W0) := hid (by rw [← hW0]; exact (Only.refl [] w).alloc _)
  have HO := hid (ho.only_nil Q0.out); have HD := hid (hd.only_nil Q0.out); have HCo := hid hcm; have HCd := hid hdcm; have HZo := hid hoc; have HZd := hid hdc
  have k0 := C0.out.cell 0; have k1 := C0.out.cell 1; have k2 := C0.out.cell 2; have k3 := C0.out.cell 3; have k4 := C0.out.cell 4; have k5 := C0.out.cell 5; have k6 := C0.out.cell 6; have k7 := C0.out.cell 7; have k8 := C0.out.cell 8; have k9 := C0.out.cell 9; have k10 := C0.out.cell 10
  clear ho hd hcm hdcm hoc hdc
  go_enter Try.func4, Try.ntmps4
  go_wp2_with fail
  refine (flong1 W0 sv pid wh mo off lf pr fr to oA on oc dA dn dc).mono ?_
  rintro x w1 ⟨q, rfl, o1, hq⟩
  have Q1 := hid o1
  have C1 := hid (C0.out.only o1 (by simp))
  have HQ := hid hq
  clear k0 k1 k2 k3 k4 k5 k6 k7 k8 k9 k10 o1 hq hW0
  cases q with
  | true =>
    go_wp2_with fail
    go_ret
    exact ⟨rfl, Q0.out.trans Q1.out⟩
  | false =>
    have hdn6 := (HQ.out rfl).1
    have hon6 := (HQ.out rfl).2
    have k0 := C1.out.cell 0; have k1 := C1.out.cell 1; have k2 := C1.out.cell 2; have k3 := C1.out.cell 3; have k4 := C1.out.cell 4; have k5 := C1.out.cell 5; have k6 := C1.out.cell 6; have k7 := C1.out.cell 7; have k8 := C1.out.cell 8; have k9 := C1.out.cell 9; have k10 := C1.out.cell 10
    go_wp2_with fail
    refine (split1 w1 sv pid wh mo off lf pr fr to oA on oc dA dn dc o d m (HO.out.only_nil Q1.out) HZo.out hnc HCo.out (by omega) (HD.out.only_nil Q1.out) HZd.out hdnc HCd.out (by omega)).mono ?_
    rintro x w2 ⟨v2, e, M, rfl, hres, hrow, hpd, o2⟩
    have Q2 := hid (Q1.out.trans o2)
    have C2 := hid (C1.out.only o2 (by simp))
    clear k0 k1 k2 k3 k4 k5 k6 k7 k8 k9 k10
    rcases hres with ⟨he, rfl, rfl⟩ | ⟨rfl, hwh⟩
    · have heb : (e != 0) = true := by simpa using he
      clear hrow hpd o2
      go_wp2_with fail
      refine (ev.known _).mono ?_
      rintro x w9 ⟨rfl, o9⟩
      have Q9 := hid (Q2.out.trans o9); clear o9
      go_wp2_with fail
      go_ret
      exact ⟨rfl, Q0.out.trans Q9.out⟩
    have HWh := hid hwh
    have HPD := hid hpd
    have hMpos : 0 < M.length := by obtain ⟨M0, q, rfl, _⟩ := hwh; simp
    have HDt : Hid (dat M = d) := hid (by obtain ⟨M0, q, _, _, _, _, h9⟩ := hwh; exact h9)
    obtain ⟨A2, c2, ev2, hnc2, hcm2, hz2, hrd2, hblk2, hform2⟩ := RdS.of_own hrow (pcs_one _)
    have HBlk : Hid (∀ b off, A2 = some ⟨b, off, none⟩ → off = 0 ∧ w1.heap.size ≤ b) := hid (fun b off e => ⟨(hblk2 b off e).1, (own_lt hrow b (hblk2 b off e).2).1⟩)
    have HNb : Hid (M.length ≤ 9223372036854775807) := hid (by have h9 := hcm2; unfold maxLen at h9; omega)
    clear hcm2 hz2 hblk2 hform2
    subst ev2
    have HRw := hid hrd2
    have hw1 := Q1.out.size
    have hw0 := Q0.out.size
    obtain ⟨N, hN⟩ : ∃ N, M.length = N := ⟨_, rfl⟩
    have HN := hid hN
    rw [hN] at hMpos
    rw [hN]
    have HB1 : Hid (w1.heap.size ≤ w2.heap.size) := hid o2.size
    clear hwh hpd hrow hnc2 hrd2 o2 hN
    go_wp2_with fail
    go_loopw [8, 7, 9, 10] (fun i va v9 v10 wr => ∃ (k : Nat) (v : Value), v = va ∧ i = .int .i64 k ∧ k ≤ N ∧ Hid (Own .u8 5 wr w.heap.size v (dat (M.take k))) ∧ Hid (∀ j, v.ownBlock = some j → w2.heap.size ≤ j) ∧ Hid (Only [] W0 wr) ∧ Hid (Only [] w2 wr)) (fun i _ _ _ _ => N - (RowKit.intOf i).toNat)
    case atStart => exact ⟨0, .slice none 0 0, rfl, rfl, by omega, hid (Own.nil _ _ _ _), hid (fun j h => absurd h (by simp [Value.ownBlock])), Q2, hid (Only.refl _ _)⟩
    case round =>
      obtain ⟨k, v, rfl, rfl, hk, HV, HVlow, HB, HB2⟩ := hrel
      by_cases hlt : k < N
      · have HK : Hid (k < M.length) := hid (by rw [HN.out]; exact hlt)
        have hat := whole_at HWh.out k HK.out
        have HTk := hid (pk_take M k HK.out)
        have HK1 : Hid (k + 1 ≤ N) := hid (by omega)
        have hpdk := HPD.out _ (pk_mem M k HK.out)
        have HUl : Hid ((dat (M.take k)).length ≤ dn) := hid (by have h9 := dat_le M k; rw [HDt.out, Hdn.out] at h9; exact h9)
        have hqd0 : (M.getD k pk0).d.length ≤ dn := by
          have h9 := dat_le M (k + 1)
          rw [HTk.out, dat_snoc, HDt.out, Hdn.out, List.length_append] at h9
          omega
        obtain ⟨b, bo, rfl, hb, hcell⟩ := RowP.at (w := wr) (A := A2) (L := M) (by
          have h9 := RdS.only_nil HRw.out HB2.out
          exact h9) k HK.out
        obtain rfl : bo = 0 := (HBlk.out b bo rfl).1
        simp only [Nat.zero_add] at hcell
        generalize M.getD k pk0 = q at *
        obtain ⟨qsv, qpid, qwh, qmo, qoff, qlf, qpr, qfr, qto, qoA, qoc, qo, qdA, qdc, qd⟩ := q
        have d0 : wr.cell? ⟨b, k * 11, none⟩ = some (.int .i64 qsv) := by have h9 := hcell 0 _ rfl; rwa [Nat.add_zero] at h9
        have d1 : wr.cell? ⟨b, k * 11 + 1, none⟩ = some (.int .i64 qpid) := hcell 1 _ rfl; have d2 : wr.cell? ⟨b, k * 11 + 2, none⟩ = some (.bool qwh) := hcell 2 _ rfl; have d3 : wr.cell? ⟨b, k * 11 + 3, none⟩ = some (.bool qmo) := hcell 3 _ rfl; have d4 : wr.cell? ⟨b, k * 11 + 4, none⟩ = some (.int .i64 qoff) := hcell 4 _ rfl; have d5 : wr.cell? ⟨b, k * 11 + 5, none⟩ = some (.int .i64 qlf) := hcell 5 _ rfl; have d6 : wr.cell? ⟨b, k * 11 + 6, none⟩ = some (.int .i64 qpr) := hcell 6 _ rfl; have d7 : wr.cell? ⟨b, k * 11 + 7, none⟩ = some (.int .u32 qfr) := hcell 7 _ rfl; have d8 : wr.cell? ⟨b, k * 11 + 8, none⟩ = some (.int .u32 qto) := hcell 8 _ rfl; have d9 : wr.cell? ⟨b, k * 11 + 9, none⟩ = some (.slice qoA qo.length qoc) := hcell 9 _ rfl; have d10 : wr.cell? ⟨b, k * 11 + 10, none⟩ = some (.slice qdA qd.length qdc) := hcell 10 _ rfl
        have hqd : qd.length ≤ dn := hqd0
        have HQ1 : Hid (qoff = off + ((dat (M.take k)).length : Int)) := hid hat.1.1
        have hq2 : chk qsv qpid qoff qlf qpr qo qd.length = 0 := hat.1.2.1
        have hq3 : hl qo.length + qd.length ≤ m.toNat := hat.1.2.2
        have HM1 : Hid (k + 1 < N → qmo = true ∧ qd.length % 8 = 0) := hid (by have h9 := hat.2.1; rwa [HN.out] at h9)
        have hq40 : qo.length ≤ 40 := (chk0 hq2).2.1
        have K2 : KK w1.heap.size w2 wr := KK.of_nil HB2.out HB1.out
        have HQo := hid (hpdk.1.keep K2); have HQd0 := hid (hpdk.2.keep K2)
        have HQz : Hid (qdA = none → qdc = 0) := hid HQd0.out.2.2.2.1
        have hl20 : 20 ≤ hl qo.length := by unfold hl; omega
        have C3 := hid (C0.out.only HB.out (by simp))
        clear hcell hat hpdk hqd0 K2
        go_wp2_with fail
        refine (enc1 wr qsv qpid qoff qlf qpr qwh qmo qfr qto qoA qo.length qoc qdA qd.length qdc qo qd HQo.out.rd HQo.out.2.2.2.1 HQo.out.2.1 HQo.out.2.2.1 (by omega) HQd0.out.rd HQz.out (by omega) hq2).mono ?_
        rintro x w6 ⟨v6, rfl, hv6, o6⟩
        obtain ⟨A6, c6, rfl, _, _⟩ := own_form hv6
        obtain ⟨nb, hnb⟩ : ∃ nb, (encP qsv qpid qoff qlf qpr qwh qmo qfr qto qo qd).length = nb := ⟨_, rfl⟩
        have hnb2 : nb = hl qo.length + qd.length := by rw [← hnb, encP_len]
        rw [hnb]
        have hfit : ¬ m < (nb : Int) := by omega
        have hfitd : decide (m < (nb : Int)) = false := decide_eq_false hfit
        clear hnb2
        have HB6 := hid (HB.out.trans o6)
        have HB26 := hid (HB2.out.trans o6)
        have HQd := hid (HQd0.out.rd.only_nil o6)
        have HVl := hid (HV.out.only_nil o6)
        have C6 := hid (C3.out.only o6 (by simp))
        have t4 := o6.keep d4; have t3 := o6.keep d3; have t10 := o6.keep d10
        have b4 : w6.cell? ⟨w.heap.size, 4, none⟩ = some (.int .i64 off) := C6.out.cell 4
        obtain ⟨Aa, ca, rfl, _, _⟩ := own_form HV.out
        obtain ⟨un, hun⟩ : ∃ un, (dat (M.take k)).length = un := ⟨_, rfl⟩
        have HUn := hid hun
        rw [hun] at HUl
        rw [hun]
        have hq1b : qoff = off + (un : Int) := by rw [← hun]; exact HQ1.out
        subst hq1b
        have HOb : Hid (-100000 ≤ off ∧ off ≤ 100000) := hid (by
          have h9 := (chk0 hq2).1
          unfold Nums at h9
          have h8 := HUl.out
          omega)
        have hw9 : IntKind.i64.wrap (off + (un : Int)) = off + (un : Int) := i64_in _ (by have h9 := HOb.out; have h8 := HUl.out; omega)
        have HUl2 := hid hun
        have hwk : IntKind.i64.wrap ((k : Int) + 1) = (k : Int) + 1 := i64_in _ (by have h9 := HNb.out; rw [HN.out] at h9; omega)
        clear d0 d1 d2 d3 d4 d5 d6 d7 d8 d9 d10 o6 hv6 hnb hun hq2
        by_cases hlast : k + 1 < N
        · obtain ⟨rfl, hmod⟩ := HM1.out hlast
          have hlz : (k : Int) + 1 < (N : Int) := by omega
          have hlzd : decide ((k : Int) + 1 < (N : Int)) = true := decide_eq_true hlz
          have hmz : (qd.length : Int) % 8 = 0 := by omega
          have hmz2 : (qd.length : Int).tmod 8 = 0 := by rw [Int.tmod_eq_emod_of_nonneg (by omega)]; exact hmz
          go_wp2_with fail
          refine wp_region_noPanic ?_
          refine rgn.regionT (R := Only []) (by kernel_rfl) (Only.refl []) (fun _ _ _ => Only.trans) (fun _ _ _ _ _ h => h) (.y 0 (.y 1 (.y 2 (.y 3 (.y 4 (.y 5 (.y 6 (.y 7 (.y 8 (.y 9 (.y 10 (.y 11 (.y 12 (.y 13 (.y 14 (.y 15 (.y 16 (.y 17 (.y 18 (.y 19 (.y 20 (.y 21 (.y 22 (.y 23 (.y 24 (.y 25 (.y 26 (.y 27 (.y 28 (.y 29 (.y 30 (.y 31 (.y 32 (.y 33 (.y 34 (.y 35 (.y 36 (.y 37 (.y 38 (.y 39 (.y 40 (.y 41 (.y 42 (.y 43 (.y 44 (.y 45 .z)))))))))))))))))))))))))))))))))))))))))))))) (by kernel_rfl) (fun W hWd => ?_)
          have HWd := hid hWd; clear hWd
          have QW : Hid (Only [] w6 W) := hid (Only.eq_drew (Only.refl [] _) HWd.out)
          have y4 := QW.out.keep t4
          have y3 := QW.out.keep t3
          have y10 := QW.out.keep t10
          have x4 := QW.out.keep b4
          clear HWd
          refine rgn.Walk.ys (v := ?_) rfl rfl rfl ?_ ?_
          rotate_left 1
          · intro W' hW'
            go_simp
            try with_reducible rfl
          try simp only [Act.put, List.setIfInBounds_toArray, List.set_cons_zero, List.set_cons_succ]
          refine rgn.Walk.ys (v := ?_) rfl rfl rfl ?_ ?_
          rotate_left 1
          · intro W' hW'
            go_simp
            try with_reducible rfl
          try simp only [Act.put, List.setIfInBounds_toArray, List.set_cons_zero, List.set_cons_succ]
          refine rgn.Walk.ys (v := ?_) rfl rfl rfl ?_ ?_
          rotate_left 1
          · intro W' hW'
            go_simp
            try with_reducible rfl
          try simp only [Act.put, List.setIfInBounds_toArray, List.set_cons_zero, List.set_cons_succ]
          refine rgn.Walk.ys (v := ?_) rfl rfl rfl ?_ ?_
          rotate_left 1
          · intro W' hW'
            go_simp
            try with_reducible rfl
          try simp only [Act.put, List.setIfInBounds_toArray, List.set_cons_zero, List.set_cons_succ]
          refine rgn.Walk.ys (v := ?_) rfl rfl rfl ?_ ?_
          rotate_left 1
          · intro W' hW'
            go_simp
            try with_reducible rfl
          try simp only [Act.put, List.setIfInBounds_toArray, List.set_cons_zero, List.set_cons_succ]
          refine rgn.Walk.ys (v := ?_) rfl rfl rfl ?_ ?_
          rotate_left 1
          · intro W' hW'
            go_simp
            try with_reducible rfl
          try simp only [Act.put, List.setIfInBounds_toArray, List.set_cons_zero, List.set_cons_succ]
          refine rgn.Walk.ys (v := ?_) rfl rfl rfl ?_ ?_
          rotate_left 1
          · intro W' hW'
            go_simp
            try rw [hfitd]
            try with_reducible rfl
          try simp only [Act.put, List.setIfInBounds_toArray, List.set_cons_zero, List.set_cons_succ]
          refine rgn.Walk.ys (v := ?_) rfl rfl rfl ?_ ?_
          rotate_left 1
          · intro W' hW'
            go_simp
            try with_reducible rfl
          try simp only [Act.put, List.setIfInBounds_toArray, List.set_cons_zero, List.set_cons_succ]
          refine rgn.Walk.ys (v := ?_) rfl rfl rfl ?_ ?_
          rotate_left 1
          · intro W' hW'
            go_simp
            try with_reducible rfl
          try simp only [Act.put, List.setIfInBounds_toArray, List.set_cons_zero, List.set_cons_succ]
          refine rgn.Walk.ys (v := ?_) rfl rfl rfl ?_ ?_
          rotate_left 1
          · intro W' hW'
            go_simp
            try with_reducible rfl
          try simp only [Act.put, List.setIfInBounds_toArray, List.set_cons_zero, List.set_cons_succ]
          refine rgn.Walk.ys (v := ?_) rfl rfl rfl ?_ ?_
          rotate_left 1
          · intro W' hW'
            go_simp
            try with_reducible rfl
          try simp only [Act.put, List.setIfInBounds_toArray, List.set_cons_zero, List.set_cons_succ]
          refine rgn.Walk.ys (v := ?_) rfl rfl rfl ?_ ?_
          rotate_left 1
          · intro W' hW'
            go_simp
            try with_reducible rfl
          try simp only [Act.put, List.setIfInBounds_toArray, List.set_cons_zero, List.set_cons_succ]
          refine rgn.Walk.ys (v := ?_) rfl rfl rfl ?_ ?_
          rotate_left 1
          · intro W' hW'
            go_simp
            try with_reducible rfl
          try simp only [Act.put, List.setIfInBounds_toArray, List.set_cons_zero, List.set_cons_succ]
          refine rgn.Walk.ys (v := ?_) rfl rfl rfl ?_ ?_
          rotate_left 1
          · intro W' hW'
            have q0 := hW'.keep y4
            go_simp
            try with_reducible rfl
          try simp only [Act.put, List.setIfInBounds_toArray, List.set_cons_zero, List.set_cons_succ]
          refine rgn.Walk.ys (v := ?_) rfl rfl rfl ?_ ?_
          rotate_left 1
          · intro W' hW'
            go_simp
            try with_reducible rfl
          try simp only [Act.put, List.setIfInBounds_toArray, List.set_cons_zero, List.set_cons_succ]
          refine rgn.Walk.ys (v := ?_) rfl rfl rfl ?_ ?_
          rotate_left 1
          · intro W' hW'
            have q0 := hW'.keep x4
            go_simp
            try with_reducible rfl
          try simp only [Act.put, List.setIfInBounds_toArray, List.set_cons_zero, List.set_cons_succ]
          refine rgn.Walk.ys (v := ?_) rfl rfl rfl ?_ ?_
          rotate_left 1
          · intro W' hW'
            go_simp
            try with_reducible rfl
          try simp only [Act.put, List.setIfInBounds_toArray, List.set_cons_zero, List.set_cons_succ]
          refine rgn.Walk.ys (v := ?_) rfl rfl rfl ?_ ?_
          rotate_left 1
          · intro W' hW'
            go_simp
            try with_reducible rfl
          try simp only [Act.put, List.setIfInBounds_toArray, List.set_cons_zero, List.set_cons_succ]
          refine rgn.Walk.ys (v := ?_) rfl rfl rfl ?_ ?_
          rotate_left 1
          · intro W' hW'
            go_simp
            try with_reducible rfl
          try simp only [Act.put, List.setIfInBounds_toArray, List.set_cons_zero, List.set_cons_succ]
          refine rgn.Walk.ys (v := ?_) rfl rfl rfl ?_ ?_
          rotate_left 1
          · intro W' hW'
            go_simp
            try with_reducible rfl
          try simp only [Act.put, List.setIfInBounds_toArray, List.set_cons_zero, List.set_cons_succ]
          refine rgn.Walk.ys (v := ?_) rfl rfl rfl ?_ ?_
          rotate_left 1
          · intro W' hW'
            go_simp
            try with_reducible rfl
          try simp only [Act.put, List.setIfInBounds_toArray, List.set_cons_zero, List.set_cons_succ]
          refine rgn.Walk.ys (v := ?_) rfl rfl rfl ?_ ?_
          rotate_left 1
          · intro W' hW'
            go_simp
            try with_reducible rfl
          try simp only [Act.put, List.setIfInBounds_toArray, List.set_cons_zero, List.set_cons_succ]
          refine rgn.Walk.ys (v := ?_) rfl rfl rfl ?_ ?_
          rotate_left 1
          · intro W' hW'
            go_simp
            try with_reducible rfl
          try simp only [Act.put, List.setIfInBounds_toArray, List.set_cons_zero, List.set_cons_succ]
          refine rgn.Walk.ys (v := ?_) rfl rfl rfl ?_ ?_
          rotate_left 1
          · intro W' hW'
            go_simp
            try with_reducible rfl
          try simp only [Act.put, List.setIfInBounds_toArray, List.set_cons_zero, List.set_cons_succ]
          refine rgn.Walk.ys (v := ?_) rfl rfl rfl ?_ ?_
          rotate_left 1
          · intro W' hW'
            go_simp
            try with_reducible rfl
          try simp only [Act.put, List.setIfInBounds_toArray, List.set_cons_zero, List.set_cons_succ]
          refine rgn.Walk.ys (v := ?_) rfl rfl rfl ?_ ?_
          rotate_left 1
          · intro W' hW'
            go_simp
            try with_reducible rfl
          try simp only [Act.put, List.setIfInBounds_toArray, List.set_cons_zero, List.set_cons_succ]
          refine rgn.Walk.ys (v := ?_) rfl rfl rfl ?_ ?_
          rotate_left 1
          · intro W' hW'
            go_simp
            try rw [hlzd]
            try with_reducible rfl
          try simp only [Act.put, List.setIfInBounds_toArray, List.set_cons_zero, List.set_cons_succ]
          refine rgn.Walk.ys (v := ?_) rfl rfl rfl ?_ ?_
          rotate_left 1
          · intro W' hW'
            go_simp
            try with_reducible rfl
          try simp only [Act.put, List.setIfInBounds_toArray, List.set_cons_zero, List.set_cons_succ]
          refine rgn.Walk.ys (v := ?_) rfl rfl rfl ?_ ?_
          rotate_left 1
          · intro W' hW'
            go_simp
            try with_reducible rfl
          try simp only [Act.put, List.setIfInBounds_toArray, List.set_cons_zero, List.set_cons_succ]
          refine rgn.Walk.ys (v := ?_) rfl rfl rfl ?_ ?_
          rotate_left 1
          · intro W' hW'
            go_simp
            try with_reducible rfl
          try simp only [Act.put, List.setIfInBounds_toArray, List.set_cons_zero, List.set_cons_succ]
          refine rgn.Walk.ys (v := ?_) rfl rfl rfl ?_ ?_
          rotate_left 1
          · intro W' hW'
            go_simp
            try with_reducible rfl
          try simp only [Act.put, List.setIfInBounds_toArray, List.set_cons_zero, List.set_cons_succ]
          refine rgn.Walk.ys (v := ?_) rfl rfl rfl ?_ ?_
          rotate_left 1
          · intro W' hW'
            go_simp
            try with_reducible rfl
          try simp only [Act.put, List.setIfInBounds_toArray, List.set_cons_zero, List.set_cons_succ]
          refine rgn.Walk.ys (v := ?_) rfl rfl rfl ?_ ?_
          rotate_left 1
          · intro W' hW'
            have q0 := hW'.keep y10
            go_simp
            try with_reducible rfl
          try simp only [Act.put, List.setIfInBounds_toArray, List.set_cons_zero, List.set_cons_succ]
          refine rgn.Walk.ys (v := ?_) rfl rfl rfl ?_ ?_
          rotate_left 1
          · intro W' hW'
            go_simp
            try with_reducible rfl
          try simp only [Act.put, List.setIfInBounds_toArray, List.set_cons_zero, List.set_cons_succ]
          refine rgn.Walk.ys (v := ?_) rfl rfl rfl ?_ ?_
          rotate_left 1
          · intro W' hW'
            go_simp
            try with_reducible rfl
          try simp only [Act.put, List.setIfInBounds_toArray, List.set_cons_zero, List.set_cons_succ]
          refine rgn.Walk.ys (v := ?_) rfl rfl rfl ?_ ?_
          rotate_left 1
          · intro W' hW'
            go_simp
            try with_reducible rfl
          try simp only [Act.put, List.setIfInBounds_toArray, List.set_cons_zero, List.set_cons_succ]
          refine rgn.Walk.ys (v := ?_) rfl rfl rfl ?_ ?_
          rotate_left 1
          · intro W' hW'
            go_simp
            try with_reducible rfl
          try simp only [Act.put, List.setIfInBounds_toArray, List.set_cons_zero, List.set_cons_succ]
          refine rgn.Walk.ys (v := ?_) rfl rfl rfl ?_ ?_
          rotate_left 1
          · intro W' hW'
            go_simp
            try with_reducible rfl
          try simp only [Act.put, List.setIfInBounds_toArray, List.set_cons_zero, List.set_cons_succ]
          refine rgn.Walk.ys (v := ?_) rfl rfl rfl ?_ ?_
          rotate_left 1
          · intro W' hW'
            go_simp
            try with_reducible rfl
          try simp only [Act.put, List.setIfInBounds_toArray, List.set_cons_zero, List.set_cons_succ]
          refine rgn.Walk.ys (v := ?_) rfl rfl rfl ?_ ?_
          rotate_left 1
          · intro W' hW'
            go_simp
            try with_reducible rfl
          try simp only [Act.put, List.setIfInBounds_toArray, List.set_cons_zero, List.set_cons_succ]
          refine rgn.Walk.ys (v := ?_) rfl rfl rfl ?_ ?_
          rotate_left 1
          · intro W' hW'
            go_simp
            try with_reducible rfl
          try simp only [Act.put, List.setIfInBounds_toArray, List.set_cons_zero, List.set_cons_succ]
          refine rgn.Walk.ys (v := ?_) rfl rfl rfl ?_ ?_
          rotate_left 1
          · intro W' hW'
            have q0 := hW'.keep y3
            go_simp
            try with_reducible rfl
          try simp only [Act.put, List.setIfInBounds_toArray, List.set_cons_zero, List.set_cons_succ]
          refine rgn.Walk.ys (v := ?_) rfl rfl rfl ?_ ?_
          rotate_left 1
          · intro W' hW'
            go_simp
            try with_reducible rfl
          try simp only [Act.put, List.setIfInBounds_toArray, List.set_cons_zero, List.set_cons_succ]
          refine rgn.Walk.ys (v := ?_) rfl rfl rfl ?_ ?_
          rotate_left 1
          · intro W' hW'
            go_simp
            try with_reducible rfl
          try simp only [Act.put, List.setIfInBounds_toArray, List.set_cons_zero, List.set_cons_succ]
          refine rgn.Walk.ys (v := ?_) rfl rfl rfl ?_ ?_
          rotate_left 1
          · intro W' hW'
            go_simp
            try with_reducible rfl
          try simp only [Act.put, List.setIfInBounds_toArray, List.set_cons_zero, List.set_cons_succ]
          refine rgn.Walk.ys (v := ?_) rfl rfl rfl ?_ ?_
          rotate_left 1
          · intro W' hW'
            go_simp
            try with_reducible rfl
          try simp only [Act.put, List.setIfInBounds_toArray, List.set_cons_zero, List.set_cons_succ]
          refine rgn.Walk.zs (NoPanic.normal ?_)
          clear hw9 hwk
          have HVa : Hid (Own .u8 5 W w.heap.size (.slice Aa un ca) (dat (M.take k))) := hid (by have h9 := HVl.out.only_nil QW.out; rwa [HUl2.out] at h9)
          have HVlw : Hid (∀ j, (Value.slice Aa un ca).ownBlock = some j → w2.heap.size ≤ j) := hid (by have h9 := HVlow.out; rwa [HUl2.out] at h9)
          have hb7 : w.heap.size ≤ W.heap.size := Nat.le_trans Q0.out.size (Nat.le_trans HB6.out.size QW.out.size)
          have HQd2 := hid (HQd.out.only_nil QW.out)
          have hle : (dat (M.take k)).length ≤ dn := by rw [HUl2.out]; exact HUl.out
          go_wp2_with (at_builtin; refine wpList_app _ rfl (.tmp 87) (.tmp 92) _ rfl wrt.elemB w.heap.size (.slice Aa un ca) (dat (M.take k)) rfl HVa.out qdA qd.length qdc qd rfl HQd2.out HQz.out (by omega) (by unfold maxLen; omega) hb7 ?_)
          intro v7 w7 hv7 hg7 hb8
          have HV7 : Hid (Own .u8 5 w7 w.heap.size v7 (dat (M.take (k + 1)))) := hid (by rw [HTk.out, dat_snoc]; exact hv7)
          have HB7 : Hid (Only [] W0 w7) := hid ((HB6.out.trans QW.out).of_grown hg7 (fun i hi => .inr (by have h9 := HVlw.out i hi; have := Q2.out.size; omega)))
          have HB27 : Hid (Only [] w2 w7) := hid ((HB26.out.trans QW.out).of_grown hg7 (fun i hi => .inr (by have h9 := HVlw.out i hi; have := Q2.out.size; omega)))
          have HL7 : Hid (∀ j, v7.ownBlock = some j → w2.heap.size ≤ j) := hid (fun j hj => by
            rcases hb8 with h | h
            · exact HVlw.out j (h ▸ hj)
            · rw [h] at hj; have h9 : W.heap.size = j := by simpa using hj
              have := HB26.out.size; have := QW.out.size; omega)
          have hkb : k + 1 ≤ 9223372036854775807 := by have h9 := HNb.out; have h8 := HK1.out; rw [HN.out] at h9; omega
          clear hv7 hg7 hb8
          go_wp2_with fail
          go_roundw
          case rel => exact ⟨k + 1, v7, rfl, by first | rfl | go_num, HK1.out, HV7, HL7, HB7, HB27⟩
          case measure => simp [RowKit.intOf]; have := HK1.out; omega
        · have hlz : ¬ (k : Int) + 1 < (N : Int) := by omega
          have hlzd : decide ((k : Int) + 1 < (N : Int)) = false := decide_eq_false hlz
          go_wp2_with fail
          refine wp_region_noPanic ?_
          refine rgn.regionT (R := Only []) (by kernel_rfl) (Only.refl []) (fun _ _ _ => Only.trans) (fun _ _ _ _ _ h => h) (.y 0 (.y 1 (.y 2 (.y 3 (.y 4 (.y 5 (.y 6 (.y 7 (.y 8 (.y 9 (.y 10 (.y 11 (.y 12 (.y 13 (.y 14 (.y 15 (.y 16 (.y 17 (.y 18 (.y 19 (.y 20 (.y 21 (.y 22 (.y 23 (.y 24 (.y 25 (.y 26 (.y 27 (.y 28 (.y 29 (.y 30 (.y 31 (.y 32 (.y 33 (.y 34 (.y 35 (.y 36 (.y 37 (.y 38 (.y 39 (.y 40 (.y 41 (.y 42 (.y 43 (.y 44 (.y 45 .z)))))))))))))))))))))))))))))))))))))))))))))) (by kernel_rfl) (fun W hWd => ?_)
          have HWd := hid hWd; clear hWd
          have QW : Hid (Only [] w6 W) := hid (Only.eq_drew (Only.refl [] _) HWd.out)
          have y4 := QW.out.keep t4
          have y3 := QW.out.keep t3
          have y10 := QW.out.keep t10
          have x4 := QW.out.keep b4
          clear HWd
          refine rgn.Walk.ys (v := ?_) rfl rfl rfl ?_ ?_
          rotate_left 1
          · intro W' hW'
            go_simp
            try with_reducible rfl
          try simp only [Act.put, List.setIfInBounds_toArray, List.set_cons_zero, List.set_cons_succ]
          refine rgn.Walk.ys (v := ?_) rfl rfl rfl ?_ ?_
          rotate_left 1
          · intro W' hW'
            go_simp
            try with_reducible rfl
          try simp only [Act.put, List.setIfInBounds_toArray, List.set_cons_zero, List.set_cons_succ]
          refine rgn.Walk.ys (v := ?_) rfl rfl rfl ?_ ?_
          rotate_left 1
          · intro W' hW'
            go_simp
            try with_reducible rfl
          try simp only [Act.put, List.setIfInBounds_toArray, List.set_cons_zero, List.set_cons_succ]
          refine rgn.Walk.ys (v := ?_) rfl rfl rfl ?_ ?_
          rotate_left 1
          · intro W' hW'
            go_simp
            try with_reducible rfl
          try simp only [Act.put, List.setIfInBounds_toArray, List.set_cons_zero, List.set_cons_succ]
          refine rgn.Walk.ys (v := ?_) rfl rfl rfl ?_ ?_
          rotate_left 1
          · intro W' hW'
            go_simp
            try with_reducible rfl
          try simp only [Act.put, List.setIfInBounds_toArray, List.set_cons_zero, List.set_cons_succ]
          refine rgn.Walk.ys (v := ?_) rfl rfl rfl ?_ ?_
          rotate_left 1
          · intro W' hW'
            go_simp
            try with_reducible rfl
          try simp only [Act.put, List.setIfInBounds_toArray, List.set_cons_zero, List.set_cons_succ]
          refine rgn.Walk.ys (v := ?_) rfl rfl rfl ?_ ?_
          rotate_left 1
          · intro W' hW'
            go_simp
            try rw [hfitd]
            try with_reducible rfl
          try simp only [Act.put, List.setIfInBounds_toArray, List.set_cons_zero, List.set_cons_succ]
          refine rgn.Walk.ys (v := ?_) rfl rfl rfl ?_ ?_
          rotate_left 1
          · intro W' hW'
            go_simp
            try with_reducible rfl
          try simp only [Act.put, List.setIfInBounds_toArray, List.set_cons_zero, List.set_cons_succ]
          refine rgn.Walk.ys (v := ?_) rfl rfl rfl ?_ ?_
          rotate_left 1
          · intro W' hW'
            go_simp
            try with_reducible rfl
          try simp only [Act.put, List.setIfInBounds_toArray, List.set_cons_zero, List.set_cons_succ]
          refine rgn.Walk.ys (v := ?_) rfl rfl rfl ?_ ?_
          rotate_left 1
          · intro W' hW'
            go_simp
            try with_reducible rfl
          try simp only [Act.put, List.setIfInBounds_toArray, List.set_cons_zero, List.set_cons_succ]
          refine rgn.Walk.ys (v := ?_) rfl rfl rfl ?_ ?_
          rotate_left 1
          · intro W' hW'
            go_simp
            try with_reducible rfl
          try simp only [Act.put, List.setIfInBounds_toArray, List.set_cons_zero, List.set_cons_succ]
          refine rgn.Walk.ys (v := ?_) rfl rfl rfl ?_ ?_
          rotate_left 1
          · intro W' hW'
            go_simp
            try with_reducible rfl
          try simp only [Act.put, List.setIfInBounds_toArray, List.set_cons_zero, List.set_cons_succ]
          refine rgn.Walk.ys (v := ?_) rfl rfl rfl ?_ ?_
          rotate_left 1
          · intro W' hW'
            go_simp
            try with_reducible rfl
          try simp only [Act.put, List.setIfInBounds_toArray, List.set_cons_zero, List.set_cons_succ]
          refine rgn.Walk.ys (v := ?_) rfl rfl rfl ?_ ?_
          rotate_left 1
          · intro W' hW'
            have q0 := hW'.keep y4
            go_simp
            try with_reducible rfl
          try simp only [Act.put, List.setIfInBounds_toArray, List.set_cons_zero, List.set_cons_succ]
          refine rgn.Walk.ys (v := ?_) rfl rfl rfl ?_ ?_
          rotate_left 1
          · intro W' hW'
            go_simp
            try with_reducible rfl
          try simp only [Act.put, List.setIfInBounds_toArray, List.set_cons_zero, List.set_cons_succ]
          refine rgn.Walk.ys (v := ?_) rfl rfl rfl ?_ ?_
          rotate_left 1
          · intro W' hW'
            have q0 := hW'.keep x4
            go_simp
            try with_reducible rfl
          try simp only [Act.put, List.setIfInBounds_toArray, List.set_cons_zero, List.set_cons_succ]
          refine rgn.Walk.ys (v := ?_) rfl rfl rfl ?_ ?_
          rotate_left 1
          · intro W' hW'
            go_simp
            try with_reducible rfl
          try simp only [Act.put, List.setIfInBounds_toArray, List.set_cons_zero, List.set_cons_succ]
          refine rgn.Walk.ys (v := ?_) rfl rfl rfl ?_ ?_
          rotate_left 1
          · intro W' hW'
            go_simp
            try with_reducible rfl
          try simp only [Act.put, List.setIfInBounds_toArray, List.set_cons_zero, List.set_cons_succ]
          refine rgn.Walk.ys (v := ?_) rfl rfl rfl ?_ ?_
          rotate_left 1
          · intro W' hW'
            go_simp
            try with_reducible rfl
          try simp only [Act.put, List.setIfInBounds_toArray, List.set_cons_zero, List.set_cons_succ]
          refine rgn.Walk.ys (v := ?_) rfl rfl rfl ?_ ?_
          rotate_left 1
          · intro W' hW'
            go_simp
            try with_reducible rfl
          try simp only [Act.put, List.setIfInBounds_toArray, List.set_cons_zero, List.set_cons_succ]
          refine rgn.Walk.ys (v := ?_) rfl rfl rfl ?_ ?_
          rotate_left 1
          · intro W' hW'
            go_simp
            try with_reducible rfl
          try simp only [Act.put, List.setIfInBounds_toArray, List.set_cons_zero, List.set_cons_succ]
          refine rgn.Walk.ys (v := ?_) rfl rfl rfl ?_ ?_
          rotate_left 1
          · intro W' hW'
            go_simp
            try with_reducible rfl
          try simp only [Act.put, List.setIfInBounds_toArray, List.set_cons_zero, List.set_cons_succ]
          refine rgn.Walk.ys (v := ?_) rfl rfl rfl ?_ ?_
          rotate_left 1
          · intro W' hW'
            go_simp
            try with_reducible rfl
          try simp only [Act.put, List.setIfInBounds_toArray, List.set_cons_zero, List.set_cons_succ]
          refine rgn.Walk.ys (v := ?_) rfl rfl rfl ?_ ?_
          rotate_left 1
          · intro W' hW'
            go_simp
            try with_reducible rfl
          try simp only [Act.put, List.setIfInBounds_toArray, List.set_cons_zero, List.set_cons_succ]
          refine rgn.Walk.ys (v := ?_) rfl rfl rfl ?_ ?_
          rotate_left 1
          · intro W' hW'
            go_simp
            try with_reducible rfl
          try simp only [Act.put, List.setIfInBounds_toArray, List.set_cons_zero, List.set_cons_succ]
          refine rgn.Walk.ys (v := ?_) rfl rfl rfl ?_ ?_
          rotate_left 1
          · intro W' hW'
            go_simp
            try with_reducible rfl
          try simp only [Act.put, List.setIfInBounds_toArray, List.set_cons_zero, List.set_cons_succ]
          refine rgn.Walk.ys (v := ?_) rfl rfl rfl ?_ ?_
          rotate_left 1
          · intro W' hW'
            go_simp
            try rw [hlzd]
            try with_reducible rfl
          try simp only [Act.put, List.setIfInBounds_toArray, List.set_cons_zero, List.set_cons_succ]
          refine rgn.Walk.ys (v := ?_) rfl rfl rfl ?_ ?_
          rotate_left 1
          · intro W' hW'
            go_simp
            try with_reducible rfl
          try simp only [Act.put, List.setIfInBounds_toArray, List.set_cons_zero, List.set_cons_succ]
          refine rgn.Walk.yn rfl rfl rfl ?_
          try simp only [Act.put, List.setIfInBounds_toArray, List.set_cons_zero, List.set_cons_succ]
          refine rgn.Walk.yn rfl rfl rfl ?_
          try simp only [Act.put, List.setIfInBounds_toArray, List.set_cons_zero, List.set_cons_succ]
          refine rgn.Walk.yn rfl rfl rfl ?_
          try simp only [Act.put, List.setIfInBounds_toArray, List.set_cons_zero, List.set_cons_succ]
          refine rgn.Walk.yn rfl rfl rfl ?_
          try simp only [Act.put, List.setIfInBounds_toArray, List.set_cons_zero, List.set_cons_succ]
          refine rgn.Walk.yn rfl rfl rfl ?_
          try simp only [Act.put, List.setIfInBounds_toArray, List.set_cons_zero, List.set_cons_succ]
          refine rgn.Walk.yn rfl rfl rfl ?_
          try simp only [Act.put, List.setIfInBounds_toArray, List.set_cons_zero, List.set_cons_succ]
          refine rgn.Walk.yn rfl rfl rfl ?_
          try simp only [Act.put, List.setIfInBounds_toArray, List.set_cons_zero, List.set_cons_succ]
          refine rgn.Walk.yn rfl rfl rfl ?_
          try simp only [Act.put, List.setIfInBounds_toArray, List.set_cons_zero, List.set_cons_succ]
          refine rgn.Walk.yn rfl rfl rfl ?_
          try simp only [Act.put, List.setIfInBounds_toArray, List.set_cons_zero, List.set_cons_succ]
          refine rgn.Walk.yn rfl rfl rfl ?_
          try simp only [Act.put, List.setIfInBounds_toArray, List.set_cons_zero, List.set_cons_succ]
          refine rgn.Walk.yn rfl rfl rfl ?_
          try simp only [Act.put, List.setIfInBounds_toArray, List.set_cons_zero, List.set_cons_succ]
          refine rgn.Walk.yn rfl rfl rfl ?_
          try simp only [Act.put, List.setIfInBounds_toArray, List.set_cons_zero, List.set_cons_succ]
          refine rgn.Walk.yn rfl rfl rfl ?_
          try simp only [Act.put, List.setIfInBounds_toArray, List.set_cons_zero, List.set_cons_succ]
          refine rgn.Walk.yn rfl rfl rfl ?_
          try simp only [Act.put, List.setIfInBounds_toArray, List.set_cons_zero, List.set_cons_succ]
          refine rgn.Walk.yn rfl rfl rfl ?_
          try simp only [Act.put, List.setIfInBounds_toArray, List.set_cons_zero, List.set_cons_succ]
          refine rgn.Walk.yn rfl rfl rfl ?_
          try simp only [Act.put, List.setIfInBounds_toArray, List.set_cons_zero, List.set_cons_succ]
          refine rgn.Walk.ys (v := ?_) rfl rfl rfl ?_ ?_
          rotate_left 1
          · intro W' hW'
            go_simp
            try with_reducible rfl
          try simp only [Act.put, List.setIfInBounds_toArray, List.set_cons_zero, List.set_cons_succ]
          refine rgn.Walk.ys (v := ?_) rfl rfl rfl ?_ ?_
          rotate_left 1
          · intro W' hW'
            go_simp
            try with_reducible rfl
          try simp only [Act.put, List.setIfInBounds_toArray, List.set_cons_zero, List.set_cons_succ]
          refine rgn.Walk.zs (NoPanic.normal ?_)
          clear hw9 hwk
          have HVa : Hid (Own .u8 5 W w.heap.size (.slice Aa un ca) (dat (M.take k))) := hid (by have h9 := HVl.out.only_nil QW.out; rwa [HUl2.out] at h9)
          have HVlw : Hid (∀ j, (Value.slice Aa un ca).ownBlock = some j → w2.heap.size ≤ j) := hid (by have h9 := HVlow.out; rwa [HUl2.out] at h9)
          have hb7 : w.heap.size ≤ W.heap.size := Nat.le_trans Q0.out.size (Nat.le_trans HB6.out.size QW.out.size)
          have HQd2 := hid (HQd.out.only_nil QW.out)
          have hle : (dat (M.take k)).length ≤ dn := by rw [HUl2.out]; exact HUl.out
          go_wp2_with (at_builtin; refine wpList_app _ rfl (.tmp 87) (.tmp 92) _ rfl wrt.elemB w.heap.size (.slice Aa un ca) (dat (M.take k)) rfl HVa.out qdA qd.length qdc qd rfl HQd2.out HQz.out (by omega) (by unfold maxLen; omega) hb7 ?_)
          intro v7 w7 hv7 hg7 hb8
          have HV7 : Hid (Own .u8 5 w7 w.heap.size v7 (dat (M.take (k + 1)))) := hid (by rw [HTk.out, dat_snoc]; exact hv7)
          have HB7 : Hid (Only [] W0 w7) := hid ((HB6.out.trans QW.out).of_grown hg7 (fun i hi => .inr (by have h9 := HVlw.out i hi; have := Q2.out.size; omega)))
          have HB27 : Hid (Only [] w2 w7) := hid ((HB26.out.trans QW.out).of_grown hg7 (fun i hi => .inr (by have h9 := HVlw.out i hi; have := Q2.out.size; omega)))
          have HL7 : Hid (∀ j, v7.ownBlock = some j → w2.heap.size ≤ j) := hid (fun j hj => by
            rcases hb8 with h | h
            · exact HVlw.out j (h ▸ hj)
            · rw [h] at hj; have h9 : W.heap.size = j := by simpa using hj
              have := HB26.out.size; have := QW.out.size; omega)
          have hkb : k + 1 ≤ 9223372036854775807 := by have h9 := HNb.out; have h8 := HK1.out; rw [HN.out] at h9; omega
          clear hv7 hg7 hb8
          go_wp2_with fail
          go_roundw
          case rel => exact ⟨k + 1, v7, rfl, by first | rfl | go_num, HK1.out, HV7, HL7, HB7, HB27⟩
          case measure => simp [RowKit.intOf]; have := HK1.out; omega
      · have hkN : k = N := by omega
        have hkl : k = M.length := by rw [HN.out]; exact hkN
        have HDk : Hid (dat (M.take k) = d) := hid (by rw [List.take_of_length_le (by omega)]; exact HDt.out)
        have hN1 : N - 1 < M.length := by rw [HN.out]; omega
        have hat := whole_at HWh.out (N - 1) hN1
        obtain ⟨b, bo, rfl, hb, hcell⟩ := RowP.at (w := wr) (A := A2) (L := M) (by
          have h9 := RdS.only_nil HRw.out HB2.out
          exact h9) (N - 1) hN1
        obtain rfl : bo = 0 := (HBlk.out b bo rfl).1
        simp only [Nat.zero_add] at hcell
        have hmo : (M.getD (N - 1) pk0).mo = mo := hat.2.2 (by rw [HN.out]; omega)
        have t3 : wr.cell? ⟨b, (N - 1) * 11 + 3, none⟩ = some (.bool mo) := by rw [← hmo]; exact hcell 3 _ rfl
        have C3 := hid (C0.out.only HB.out (by simp))
        have b3 : wr.cell? ⟨w.heap.size, 3, none⟩ = some (.bool mo) := C3.out.cell 3
        have b10 : wr.cell? ⟨w.heap.size, 10, none⟩ = some (.slice dA dn dc) := C3.out.cell 10
        have hNz : (0 : Int) < (N : Int) := by omega
        have hN1z : (N : Int) - 1 = ((N - 1 : Nat) : Int) := by omega
        obtain ⟨N1, hN1e⟩ : ∃ N1, N - 1 = N1 := ⟨_, rfl⟩
        rw [hN1e] at t3 hN1z
        have hN1l : N1 < N := by omega
        have hN1m : (N1 : Int) < (N : Int) := by omega
        have hwN : IntKind.i64.wrap ((N1 : Nat) : Int) = ((N1 : Nat) : Int) := i64_in _ (by have h9 := HNb.out; rw [HN.out] at h9; omega)
        have hV := HV.out
        rw [HDk.out] at hV
        obtain ⟨Aa, ca, rfl, hAr, _⟩ := own_form hV
        rw [Hdn.out] at hAr
        rw [Hdn.out]
        have HAr := hid hAr
        have HDr := hid (HD.out.only_nil HB.out)
        clear hcell hat hmo hV hAr hN1 hN1e hkl
        go_wp2_with fail
        refine wp_region_noPanic ?_
        refine rgn.regionT (R := Only []) (by kernel_rfl) (Only.refl []) (fun _ _ _ => Only.trans) (fun _ _ _ _ _ h => h) (.y 0 (.y 1 (.y 2 (.y 3 (.y 4 (.y 5 (.y 6 (.y 7 (.y 8 (.y 9 (.y 10 (.y 11 (.y 12 (.y 13 (.y 14 (.y 15 (.y 16 (.y 17 (.y 18 (.e 19 (.y 20 (.y 21 (.e 22 (.y 23 (.e 24 .z))))))))))))))))))))))))) (by kernel_rfl) (fun W hWd => ?_)
        have HWd := hid hWd; clear hWd
        have QW : Hid (Only [] wr W) := hid (Only.eq_drew (Only.refl [] _) HWd.out)
        have y3 := QW.out.keep t3
        have x3 := QW.out.keep b3
        have x10 := QW.out.keep b10
        clear HWd
        refine rgn.Walk.ys (v := ?_) rfl rfl rfl ?_ ?_
        rotate_left 1
        · intro W' hW'
          go_simp
          try with_reducible rfl
        try simp only [Act.put, List.setIfInBounds_toArray, List.set_cons_zero, List.set_cons_succ]
        refine rgn.Walk.ys (v := ?_) rfl rfl rfl ?_ ?_
        rotate_left 1
        · intro W' hW'
          go_simp
          try with_reducible rfl
        try simp only [Act.put, List.setIfInBounds_toArray, List.set_cons_zero, List.set_cons_succ]
        refine rgn.Walk.ys (v := ?_) rfl rfl rfl ?_ ?_
        rotate_left 1
        · intro W' hW'
          go_simp
          try with_reducible rfl
        try simp only [Act.put, List.setIfInBounds_toArray, List.set_cons_zero, List.set_cons_succ]
        refine rgn.Walk.ys (v := ?_) rfl rfl rfl ?_ ?_
        rotate_left 1
        · intro W' hW'
          go_simp
          try with_reducible rfl
        try simp only [Act.put, List.setIfInBounds_toArray, List.set_cons_zero, List.set_cons_succ]
        refine rgn.Walk.ys (v := ?_) rfl rfl rfl ?_ ?_
        rotate_left 1
        · intro W' hW'
          go_simp
          try with_reducible rfl
        try simp only [Act.put, List.setIfInBounds_toArray, List.set_cons_zero, List.set_cons_succ]
        refine rgn.Walk.ys (v := ?_) rfl rfl rfl ?_ ?_
        rotate_left 1
        · intro W' hW'
          go_simp
          try with_reducible rfl
        try simp only [Act.put, List.setIfInBounds_toArray, List.set_cons_zero, List.set_cons_succ]
        refine rgn.Walk.ys (v := ?_) rfl rfl rfl ?_ ?_
        rotate_left 1
        · intro W' hW'
          go_simp
          try with_reducible rfl
        try simp only [Act.put, List.setIfInBounds_toArray, List.set_cons_zero, List.set_cons_succ]
        refine rgn.Walk.ys (v := ?_) rfl rfl rfl ?_ ?_
        rotate_left 1
        · intro W' hW'
          go_simp
          try with_reducible rfl
        try simp only [Act.put, List.setIfInBounds_toArray, List.set_cons_zero, List.set_cons_succ]
        refine rgn.Walk.ys (v := ?_) rfl rfl rfl ?_ ?_
        rotate_left 1
        · intro W' hW'
          go_simp
          try with_reducible rfl
        try simp only [Act.put, List.setIfInBounds_toArray, List.set_cons_zero, List.set_cons_succ]
        refine rgn.Walk.ys (v := ?_) rfl rfl rfl ?_ ?_
        rotate_left 1
        · intro W' hW'
          go_simp
          try with_reducible rfl
        try simp only [Act.put, List.setIfInBounds_toArray, List.set_cons_zero, List.set_cons_succ]
        refine rgn.Walk.ys (v := ?_) rfl rfl rfl ?_ ?_
        rotate_left 1
        · intro W' hW'
          have q0 := hW'.keep y3
          go_simp
          try with_reducible rfl
        try simp only [Act.put, List.setIfInBounds_toArray, List.set_cons_zero, List.set_cons_succ]
        refine rgn.Walk.ys (v := ?_) rfl rfl rfl ?_ ?_
        rotate_left 1
        · intro W' hW'
          go_simp
          try with_reducible rfl
        try simp only [Act.put, List.setIfInBounds_toArray, List.set_cons_zero, List.set_cons_succ]
        refine rgn.Walk.ys (v := ?_) rfl rfl rfl ?_ ?_
        rotate_left 1
        · intro W' hW'
          have q0 := hW'.keep x3
          go_simp
          try with_reducible rfl
        try simp only [Act.put, List.setIfInBounds_toArray, List.set_cons_zero, List.set_cons_succ]
        refine rgn.Walk.ys (v := ?_) rfl rfl rfl ?_ ?_
        rotate_left 1
        · intro W' hW'
          go_simp
          try with_reducible rfl
        try simp only [Act.put, List.setIfInBounds_toArray, List.set_cons_zero, List.set_cons_succ]
        refine rgn.Walk.ys (v := ?_) rfl rfl rfl ?_ ?_
        rotate_left 1
        · intro W' hW'
          go_simp
          try with_reducible rfl
        try simp only [Act.put, List.setIfInBounds_toArray, List.set_cons_zero, List.set_cons_succ]
        refine rgn.Walk.ys (v := ?_) rfl rfl rfl ?_ ?_
        rotate_left 1
        · intro W' hW'
          go_simp
          try with_reducible rfl
        try simp only [Act.put, List.setIfInBounds_toArray, List.set_cons_zero, List.set_cons_succ]
        refine rgn.Walk.ys (v := ?_) rfl rfl rfl ?_ ?_
        rotate_left 1
        · intro W' hW'
          go_simp
          try with_reducible rfl
        try simp only [Act.put, List.setIfInBounds_toArray, List.set_cons_zero, List.set_cons_succ]
        refine rgn.Walk.ys (v := ?_) rfl rfl rfl ?_ ?_
        rotate_left 1
        · intro W' hW'
          go_simp
          try with_reducible rfl
        try simp only [Act.put, List.setIfInBounds_toArray, List.set_cons_zero, List.set_cons_succ]
        refine rgn.Walk.ys (v := ?_) rfl rfl rfl ?_ ?_
        rotate_left 1
        · intro W' hW'
          have q0 := hW'.keep x10
          go_simp
          try with_reducible rfl
        try simp only [Act.put, List.setIfInBounds_toArray, List.set_cons_zero, List.set_cons_succ]
        refine rgn.Walk.es ?_
        refine rgn.stepE rfl rfl (fun K hK => ?_)
        go_simp
        refine (hlp.same _ Aa dA dn dn ca dc d d (HAr.out.only_nil QW.out) (HDr.out.only_nil QW.out) (by omega) (by omega)).mono ?_
        rintro x w8 ⟨rfl, nq, rfl⟩
        rw [show decide (d = d) = true from decide_eq_true rfl]
        refine hK _ _ ((Only.refl [] _).drewN nq) ?_
        clear hK K
        have QW := hid (QW.out.drewN nq)
        try simp only [Act.put, List.setIfInBounds_toArray, List.set_cons_zero, List.set_cons_succ]
        refine rgn.Walk.ys (v := ?_) rfl rfl rfl ?_ ?_
        rotate_left 1
        · intro W' hW'
          go_simp
          try with_reducible rfl
        try simp only [Act.put, List.setIfInBounds_toArray, List.set_cons_zero, List.set_cons_succ]
        refine rgn.Walk.ys (v := ?_) rfl rfl rfl ?_ ?_
        rotate_left 1
        · intro W' hW'
          go_simp
          try with_reducible rfl
        try simp only [Act.put, List.setIfInBounds_toArray, List.set_cons_zero, List.set_cons_succ]
        refine rgn.Walk.es ?_
        refine rgn.stepE rfl rfl (fun K hK => ?_)
        go_simp
        refine (ev.known _).mono ?_
        rintro x w9 ⟨rfl, o9⟩
        refine hK _ _ o9 ?_
        clear hK K
        have QW := hid (QW.out.trans o9)
        clear o9
        try simp only [Act.put, List.setIfInBounds_toArray, List.set_cons_zero, List.set_cons_succ]
        refine rgn.Walk.ys (v := ?_) rfl rfl rfl ?_ ?_
        rotate_left 1
        · intro W' hW'
          go_simp
          try with_reducible rfl
        try simp only [Act.put, List.setIfInBounds_toArray, List.set_cons_zero, List.set_cons_succ]
        refine rgn.Walk.es ?_
        refine rgn.stepE rfl rfl (fun K hK => ?_)
        go_simp
        refine hK _ _ ((Only.refl []) _) ?_
        clear hK K
        try simp only [Act.put, List.setIfInBounds_toArray, List.set_cons_zero, List.set_cons_succ]
        refine rgn.Walk.zs (NoPanic.normal ?_)
        go_wp2_with fail
        go_ret
        exact ⟨rfl, Q0.out.trans (HB.out.trans QW.out)⟩
end Go.Proofs.Ytngaolagifgfjaa.ip
