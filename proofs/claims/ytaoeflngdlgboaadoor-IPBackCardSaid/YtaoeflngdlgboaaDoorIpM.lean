/-
  Chapter 6 (ipv4): a law: the header of what is written sums up to nothing, and one byte of it turned is refused. Conditions: none but those typed.
-/
import Derived.Test.YtaoeflngdlgboaaDoorIpJ
import Derived.Test.YtaoeflngdlgboaaDoorTrn6
namespace Go.Proofs.YtaoeflngdlgboaaDoor.ip
set_option linter.unusedVariables false
set_option linter.unusedSimpArgs false
open Go.ChangeShapes Go.WideShapes Go.ChangeAt Go.RowKit Go.IntWalk Go.Lib
/-- A list's entry; a name of its own, that a walk leaves as it is. -/
@[irreducible] def at1 (l : List Int) (i : Nat) : Int := l.getD i 0
theorem at1_eq (l : List Int) (i : Nat) : l.getD i 0 = at1 l i := by unfold at1; rfl
theorem F_all (T : Int) (h : 0 ≤ T) : 65535 - oct.F (T + (65535 - oct.F T)) = 0 := by
  unfold oct.F
  by_cases h0 : T = 0
  · subst h0; decide
  · rw [if_neg h0]
    split <;> omega
theorem hdr_zero (sv pid off lf pr : Int) (wh mo : Bool) (fr to : Int) (o : List Int) (dn : Nat) (ho : ∀ z ∈ o, (Lit.int .u8 z).wf = true) : oct.sumF (hdr sv pid off lf pr wh mo fr to o dn (sumH sv pid off lf pr wh mo fr to o dn)) = 0 := by
  have hw : 0 ≤ oct.ws (hdr sv pid off lf pr wh mo fr to o dn 0) := (oct.ws_bd _ (fun z hz => u8Bd (hdr_wf _ _ _ _ _ _ _ _ _ _ _ _ ho z hz))).1
  have hb : 0 ≤ sumH sv pid off lf pr wh mo fr to o dn ∧ sumH sv pid off lf pr wh mo fr to o dn ≤ 65535 := by
    have := oct.F_bd (oct.ws (hdr sv pid off lf pr wh mo fr to o dn 0)) hw
    unfold sumH oct.sumF; omega
  have hset : hdr sv pid off lf pr wh mo fr to o dn (sumH sv pid off lf pr wh mo fr to o dn) = ((hdr sv pid off lf pr wh mo fr to o dn 0).set 10 (sumH sv pid off lf pr wh mo fr to o dn / 256)).set 11 (sumH sv pid off lf pr wh mo fr to o dn % 256) := by
    generalize sumH sv pid off lf pr wh mo fr to o dn = s at *
    have : s / 256 % 256 = s / 256 := by omega
    simp [hdr, b2, this]
  have hl20 : 20 ≤ (hdr sv pid off lf pr wh mo fr to o dn 0).length := by rw [hdr_len]; have := hl_bd o.length; omega
  have g10 : (hdr sv pid off lf pr wh mo fr to o dn 0).getD 10 0 = 0 := by simp [hdr, b2]
  have g11 : ((hdr sv pid off lf pr wh mo fr to o dn 0).set 10 (sumH sv pid off lf pr wh mo fr to o dn / 256)).getD 11 0 = 0 := by simp [hdr, b2]
  have e1 := oct.ws_set (hdr sv pid off lf pr wh mo fr to o dn 0) 10 (sumH sv pid off lf pr wh mo fr to o dn / 256) (by omega)
  have e2 := oct.ws_set ((hdr sv pid off lf pr wh mo fr to o dn 0).set 10 (sumH sv pid off lf pr wh mo fr to o dn / 256)) 11 (sumH sv pid off lf pr wh mo fr to o dn % 256) (by rw [List.length_set]; omega)
  rw [g10] at e1
  rw [g11] at e2
  have e3 : oct.ws (hdr sv pid off lf pr wh mo fr to o dn (sumH sv pid off lf pr wh mo fr to o dn)) = oct.ws (hdr sv pid off lf pr wh mo fr to o dn 0) + sumH sv pid off lf pr wh mo fr to o dn := by
    rw [hset, e2, e1]
    simp
    omega
  unfold oct.sumF
  rw [e3]
  exact F_all _ hw
theorem early_turn {sv pid off lf pr : Int} {wh mo : Bool} {fr to : Int} {o d : List Int} (h : chk sv pid off lf pr o d.length = 0) (ho : ∀ z ∈ o, (Lit.int .u8 z).wf = true) (j : Nat) (hj : 1 ≤ j) (hjl : j < hl o.length) (v : Int) (hv : 0 ≤ v ∧ v ≤ 255) (hne : v ≠ (encP sv pid off lf pr wh mo fr to o d).getD j 0) : early ((encP sv pid off lf pr wh mo fr to o d).set j v) ≠ 0 := by
  obtain ⟨hN, hn40, hok, hll⟩ := chk0 h
  unfold Nums at hN
  have hb := hl_bd o.length
  have hlen : (encP sv pid off lf pr wh mo fr to o d).length = hl o.length + d.length := by unfold encP; rw [List.length_append, hdr_len]
  have hm4 : hl o.length % 4 = 0 := by unfold hl; omega
  have g0 : ((encP sv pid off lf pr wh mo fr to o d).set j v).getD 0 0 = (64 + (hl o.length : Nat) / 4 : Int) % 256 := by
    rw [List.getD_eq_getElem?_getD, List.getElem?_set_ne (by omega)]
    rfl
  have e0 : hd ((encP sv pid off lf pr wh mo fr to o d).set j v) = (hl o.length : Int) := by unfold hd; rw [g0]; omega
  have htk : ((encP sv pid off lf pr wh mo fr to o d).set j v).take (hl o.length) = (hdr sv pid off lf pr wh mo fr to o d.length (sumH sv pid off lf pr wh mo fr to o d.length)).set j v := by
    rw [List.take_set]
    congr 1
    unfold encP
    rw [← hdr_len sv pid off lf pr wh mo fr to o d.length (sumH sv pid off lf pr wh mo fr to o d.length)]
    exact List.take_left
  have hgd : (encP sv pid off lf pr wh mo fr to o d).getD j 0 = (hdr sv pid off lf pr wh mo fr to o d.length (sumH sv pid off lf pr wh mo fr to o d.length)).getD j 0 := by
    unfold encP
    rw [List.getD_eq_getElem?_getD, List.getD_eq_getElem?_getD, List.getElem?_append_left (by rw [hdr_len]; exact hjl)]
  have hs : oct.sumF ((hdr sv pid off lf pr wh mo fr to o d.length (sumH sv pid off lf pr wh mo fr to o d.length)).set j v) ≠ 0 :=
    oct.sum_turned _ j v (fun z hz => u8Bd (hdr_wf _ _ _ _ _ _ _ _ _ _ _ _ ho z hz)) (by rw [hdr_len]; exact hjl) (hdr_zero _ _ _ _ _ _ _ _ _ o d.length ho) hv (by rw [← hgd]; exact hne)
  unfold early
  rw [List.length_set, hlen, g0, e0, if_neg (by omega), if_neg (by omega), if_neg (by omega), if_neg (by omega), Int.toNat_natCast, htk]
  generalize tot ((encP sv pid off lf pr wh mo fr to o d).set j v) = tt
  repeat' split
  all_goals first | decide | exact absurd hs (by assumption)
set_option maxRecDepth 100000 in
set_option maxHeartbeats 2000000 in
theorem sums (w : World) (sv pid off lf pr : Int) (wh mo : Bool) (fr to : Int) (oA : Option Addr) (on oc : Nat) (dA : Option Addr) (dn dc : Nat) (at' y m : Int) (o d : List Int) (ho : Rd .u8 w oA on o) (hoc : oA = none → oc = 0) (hnc : on ≤ oc) (hcm : oc ≤ maxLen) (hd : Rd .u8 w dA dn d) (hdc : dA = none → dc = 0) (hm : w.cell? ⟨1, 0, none⟩ = some (.int .i64 m)) (ht : Lib.TabIs Tryd.prog w "internal/strconv.uint64pow10" .u64 Lib.pow10Tab) (hy : 0 ≤ y ∧ y ≤ 255) :
    Calls Tryd.prog 6 #[.agg #[.int .i64 sv, .int .i64 pid, .bool wh, .bool mo, .int .i64 off, .int .i64 lf, .int .i64 pr, .int .u32 fr, .int .u32 to, .slice oA on oc, .slice dA dn dc], .int .i64 at', .int .u8 y] w fun x w' => x = .returned (.bool true) ∧ Only [] w w' := by
  have HM := hid hm; have HT := hid ht; clear hm ht
  have HO := hid ho; have HD := hid hd; have HOC := hid hoc; have HDC := hid hdc
  have HOL := hid ho.len; have HDL := hid hd.len; have HOW := hid ho.wf
  have HCM := hid hcm
  clear ho hd hoc hdc hcm
  have QB : Hid (Only [] w (w.alloc (.cells #[.int .i64 sv, .int .i64 pid, .bool wh, .bool mo, .int .i64 off, .int .i64 lf, .int .i64 pr, .int .u32 fr, .int .u32 to, .slice oA on oc, .slice dA dn dc] 26))) := hid ((Only.refl [] w).alloc _)
  have OB : Hid (Ob (w.alloc (.cells #[.int .i64 sv, .int .i64 pid, .bool wh, .bool mo, .int .i64 off, .int .i64 lf, .int .i64 pr, .int .u32 fr, .int .u32 to, .slice oA on oc, .slice dA dn dc] 26)) w.heap.size 26 #[.int .i64 sv, .int .i64 pid, .bool wh, .bool mo, .int .i64 off, .int .i64 lf, .int .i64 pr, .int .u32 fr, .int .u32 to, .slice oA on oc, .slice dA dn dc]) := hid (Ob.new _ _ _)
  have k0 := OB.out.cell 0; have k1 := OB.out.cell 1; have k2 := OB.out.cell 2; have k3 := OB.out.cell 3; have k4 := OB.out.cell 4; have k5 := OB.out.cell 5; have k6 := OB.out.cell 6; have k7 := OB.out.cell 7; have k8 := OB.out.cell 8; have k9 := OB.out.cell 9; have k10 := OB.out.cell 10
  have hLong := long1 (w.alloc (.cells #[.int .i64 sv, .int .i64 pid, .bool wh, .bool mo, .int .i64 off, .int .i64 lf, .int .i64 pr, .int .u32 fr, .int .u32 to, .slice oA on oc, .slice dA dn dc] 26)) sv pid off lf pr wh mo fr to oA on oc dA dn dc
  by_cases hlong : 70000 < dn ∨ 4000 < on
  · rw [show decide (70000 < dn ∨ 4000 < on) = true from decide_eq_true hlong] at hLong
    have hLong := hid hLong
    go_enter Tryd.func6, Tryd.ntmps6
    go_wp2_with fail
    refine hLong.out.mono ?_
    rintro x w1 ⟨rfl, o1⟩
    have QB := hid (QB.out.trans o1)
    go_wp2
    go_ret
    exact ⟨rfl, QB.out⟩
  · rw [show decide (70000 < dn ∨ 4000 < on) = false from decide_eq_false hlong] at hLong
    have hLong := hid hLong
    have hd7 : dn ≤ 70000 := by omega
    have ho4 : on ≤ 4000 := by omega
    clear hlong
    by_cases hch : chk sv pid off lf pr o dn = 0
    · go_enter Tryd.func6, Tryd.ntmps6
      go_wp2_with fail
      refine hLong.out.mono ?_
      rintro x w1 ⟨rfl, o1⟩
      have QB := hid (QB.out.trans o1); have OB := hid (OB.out.only o1 (by simp)); clear o1 k0 k1 k2 k3 k4 k5 k6 k7 k8 k9 k10
      have k0 := OB.out.cell 0; have k1 := OB.out.cell 1; have k2 := OB.out.cell 2; have k3 := OB.out.cell 3; have k4 := OB.out.cell 4; have k5 := OB.out.cell 5; have k6 := OB.out.cell 6; have k7 := OB.out.cell 7; have k8 := OB.out.cell 8; have k9 := OB.out.cell 9; have k10 := OB.out.cell 10
      go_wp2_with fail
      clear k0 k1 k2 k3 k4 k5 k6 k7 k8 k9 k10
      refine (enc1 _ sv pid off lf pr wh mo fr to oA on oc dA dn dc o d (HO.out.only_nil QB.out) HOC.out hnc HCM.out (by omega) (HD.out.only_nil QB.out) HDC.out (by omega) hch).mono ?_
      rintro x w5 ⟨v5, rfl, hv5, q5⟩
      have HLE : Hid ((encP sv pid off lf pr wh mo fr to o d).length = hl on + dn) := hid (by unfold encP; rw [List.length_append, hdr_len, HOL.out, HDL.out])
      have hhb := hl_bd on
      have hm4 : hl on % 4 = 0 := by unfold hl; omega
      obtain ⟨_, hn40, _, _⟩ := chk0 hch
      have hon40 : on ≤ 40 := by rw [← HOL.out]; exact hn40
      obtain ⟨g, cap, rfl⟩ := hv5.some_form (by rw [HLE.out]; omega)
      have HG0 : Hid (∀ j, 1 ≤ j → j < hl on → ∀ v, 0 ≤ v ∧ v ≤ 255 → v ≠ (encP sv pid off lf pr wh mo fr to o d).getD j 0 → early ((encP sv pid off lf pr wh mo fr to o d).set j v) ≠ 0) := hid (fun j h1 h2 v hv hne => early_turn (by rw [HDL.out]; exact hch) HOW.out j h1 (by rw [HOL.out]; exact h2) v hv hne)
      have HSZ : Hid (oct.sumF ((encP sv pid off lf pr wh mo fr to o d).take (hl on)) = 0) := hid (by
        have e : (encP sv pid off lf pr wh mo fr to o d).take (hl on) = hdr sv pid off lf pr wh mo fr to o d.length (sumH sv pid off lf pr wh mo fr to o d.length) := by
          unfold encP
          rw [← HOL.out, ← hdr_len sv pid off lf pr wh mo fr to o d.length (sumH sv pid off lf pr wh mo fr to o d.length)]
          exact List.take_left
        rw [e]
        exact hdr_zero _ _ _ _ _ _ _ _ _ o _ HOW.out)
      have HG1 : Hid ((encP sv pid off lf pr wh mo fr to o d).getD 0 0 = (64 + (hl on : Nat) / 4 : Int) % 256) := hid (by rw [← HOL.out]; rfl)
      have hlow : w.heap.size ≤ g := Nat.le_trans QB.out.size hv5.base_le.1
      have HB := hid hv5
      have hcc := hv5.len
      have QB := hid (QB.out.trans q5); clear q5 hv5 hch hn40
      generalize encP sv pid off lf pr wh mo fr to o d = E at *
      obtain ⟨hh, hhe⟩ : ∃ q, q = hl on := ⟨_, rfl⟩
      rw [← hhe] at HG0 HSZ HG1 hhb hm4 HLE
      obtain ⟨L, hL⟩ : ∃ L, L = hh + dn := ⟨_, rfl⟩
      rw [← hL] at HLE
      have hL20 : hh ≤ L := by omega
      have hLb : L ≤ 100000 := by omega
      clear hhe hL
      rw [HLE.out] at hcc HB
      rw [HLE.out]
      obtain ⟨q, hq⟩ : ∃ q : Nat, hh = 4 * q := ⟨hh / 4, by omega⟩
      have hx0 : E.getD 0 0 = 64 + (q : Int) := by rw [HG1.out]; omega
      have cz := HB.out.cellD 0 (by omega)
      rw [hx0] at cz
      clear hx0
      have M1 : Hid ((64 + (q : Int)) % 16 = q) := hid (by omega)
      have M2 : Hid ((q : Int) * 4 = hh) := hid (by omega)
      clear hq hm4
      have hge : ¬ (L : Int) < 20 := by omega
      have hgh : ¬ (hh : Int) < 20 := by omega
      have hgl : ¬ (L : Int) < hh := by omega
      have hi0z : (0 : Int) < L := by omega
      have hhc : hh ≤ cap := by omega
      have hh1 : (hh : Int) - 1 ≠ 0 := by omega
      have h1 := Int.tmod_lt_of_pos at' (show (0 : Int) < (hh : Int) - 1 by omega)
      have h2 : -((hh : Int) - 1) < at'.tmod ((hh : Int) - 1) := by
        have := Int.lt_tmod_of_pos at' (show (0 : Int) < (hh : Int) - 1 by omega)
        omega
      obtain ⟨i0, hi0, hr⟩ : ∃ i0 : Nat, i0 + 1 < hh ∧ (at'.tmod ((hh : Int) - 1) = (i0 : Int) ∨ at'.tmod ((hh : Int) - 1) = (i0 : Int) - ((hh : Int) - 1)) := by
        by_cases hp : 0 ≤ at'.tmod ((hh : Int) - 1)
        · exact ⟨(at'.tmod ((hh : Int) - 1)).toNat, by omega, .inl (by omega)⟩
        · exact ⟨(at'.tmod ((hh : Int) - 1) + (hh - 1)).toNat, by omega, .inr (by omega)⟩
      clear h1 h2
      have hx := u8Bd (HB.out.rd.getD_wf (1 + i0) (by omega))
      have c0 := HB.out.cellD (1 + i0) (by omega)
      have f0 := HB.out.frozen (1 + i0)
      have HG := hid (HG0.out (1 + i0) (by omega) (by omega))
      rw [at1_eq] at hx c0 HG
      clear HG0
      have hi1 : (1 : Int) + (i0 : Int) < (L : Int) := by omega
      rcases hr with hr | hr
      · by_cases hy0 : y = 0
        · subst hy0
          have hxr := oct.xor_ne (at1 E (1 + i0)) 1 hx (by omega) (by omega)
          have HV : Hid (0 ≤ bits .xor .u8 (at1 E (1 + i0)) 1 ∧ bits .xor .u8 (at1 E (1 + i0)) 1 ≤ 255) := hid ⟨hxr.1, hxr.2.1⟩
          have HN := hid (HG.out (bits .xor .u8 (at1 E (1 + i0)) 1) ⟨hxr.1, hxr.2.1⟩ hxr.2.2)
          clear hxr
          have m1 := M1.out; have m2 := M2.out
          go_wp2_with fail
          clear m1 m2
          refine (oct.sum1 _ (some ⟨g, 0, none⟩) hh cap (E.take hh) (HB.out.rd.take hh (by omega)) (by omega)).mono ?_
          rintro x w6 ⟨rfl, q6, hw6⟩
          have o6 : Only [] w5 w6 := by rw [hw6]; exact (Only.refl [] _).drewN q6
          rw [HSZ.out]
          have HB := hid (HB.out.only_nil o6); have QB := hid (QB.out.trans o6)
          clear hw6 o6 c0 f0 cz
          have c0 := HB.out.cellD (1 + i0) (by omega)
          have f0 := HB.out.frozen (1 + i0)
          rw [at1_eq] at c0
          go_wp2_with fail
          generalize bits .xor .u8 (at1 E (1 + i0)) 1 = vb at *
          have HB2 := hid (HB.out.set (1 + i0) vb (hlp.u8wf HV.out))
          have QB2 := hid (QB.out.setCell (p := ⟨g, 1 + i0, none⟩) (Or.inr hlow) (.int .u8 vb))
          refine (decEarly _ (some ⟨g, 0, none⟩) L cap (E.set (1 + i0) vb) HB2.out.rd (by omega) (by omega) (by omega) HN.out).mono ?_
          rintro x w7 ⟨rfl, q7⟩
          have hde := HN.out
          generalize early (E.set (1 + i0) vb) = er at *
          have e1 : (er != 0) = true := by simpa using hde
          have Q5 := hid ((QB2.out.trans q7).alloc (.cells #[.int .i64 0, .int .i64 0, .bool false, .bool false, .int .i64 0, .int .i64 0, .int .i64 0, .int .u32 0, .int .u32 0, .slice none 0 0, .slice none 0 0] 26)); clear q7 hde
          go_wp2_with fail
          refine (known _ m (Q5.out.keep HM.out) (tab_only HT.out Q5.out)).mono ?_
          rintro x w8 ⟨rfl, o8⟩
          have Q6 := hid (Q5.out.trans o8); clear o8
          go_wp2
          go_ret
          exact ⟨rfl, Q6.out⟩
        · have hyb : (y == 0) = false := by simpa using hy0
          have hxr := oct.xor_ne (at1 E (1 + i0)) y hx (by omega) (by omega)
          have HV : Hid (0 ≤ bits .xor .u8 (at1 E (1 + i0)) y ∧ bits .xor .u8 (at1 E (1 + i0)) y ≤ 255) := hid ⟨hxr.1, hxr.2.1⟩
          have HN := hid (HG.out (bits .xor .u8 (at1 E (1 + i0)) y) ⟨hxr.1, hxr.2.1⟩ hxr.2.2)
          clear hxr
          have m1 := M1.out; have m2 := M2.out
          go_wp2_with fail
          clear m1 m2
          refine (oct.sum1 _ (some ⟨g, 0, none⟩) hh cap (E.take hh) (HB.out.rd.take hh (by omega)) (by omega)).mono ?_
          rintro x w6 ⟨rfl, q6, hw6⟩
          have o6 : Only [] w5 w6 := by rw [hw6]; exact (Only.refl [] _).drewN q6
          rw [HSZ.out]
          have HB := hid (HB.out.only_nil o6); have QB := hid (QB.out.trans o6)
          clear hw6 o6 c0 f0 cz
          have c0 := HB.out.cellD (1 + i0) (by omega)
          have f0 := HB.out.frozen (1 + i0)
          rw [at1_eq] at c0
          go_wp2_with fail
          generalize bits .xor .u8 (at1 E (1 + i0)) y = vb at *
          have HB2 := hid (HB.out.set (1 + i0) vb (hlp.u8wf HV.out))
          have QB2 := hid (QB.out.setCell (p := ⟨g, 1 + i0, none⟩) (Or.inr hlow) (.int .u8 vb))
          refine (decEarly _ (some ⟨g, 0, none⟩) L cap (E.set (1 + i0) vb) HB2.out.rd (by omega) (by omega) (by omega) HN.out).mono ?_
          rintro x w7 ⟨rfl, q7⟩
          have hde := HN.out
          generalize early (E.set (1 + i0) vb) = er at *
          have e1 : (er != 0) = true := by simpa using hde
          have Q5 := hid ((QB2.out.trans q7).alloc (.cells #[.int .i64 0, .int .i64 0, .bool false, .bool false, .int .i64 0, .int .i64 0, .int .i64 0, .int .u32 0, .int .u32 0, .slice none 0 0, .slice none 0 0] 26)); clear q7 hde
          go_wp2_with fail
          refine (known _ m (Q5.out.keep HM.out) (tab_only HT.out Q5.out)).mono ?_
          rintro x w8 ⟨rfl, o8⟩
          have Q6 := hid (Q5.out.trans o8); clear o8
          go_wp2
          go_ret
          exact ⟨rfl, Q6.out⟩
      · have hneg : (i0 : Int) - ((hh : Int) - 1) < 0 := by omega
        have ng : (i0 : Int) - ((hh : Int) - 1) + hh - 1 = i0 := by omega
        by_cases hy0 : y = 0
        · subst hy0
          have hxr := oct.xor_ne (at1 E (1 + i0)) 1 hx (by omega) (by omega)
          have HV : Hid (0 ≤ bits .xor .u8 (at1 E (1 + i0)) 1 ∧ bits .xor .u8 (at1 E (1 + i0)) 1 ≤ 255) := hid ⟨hxr.1, hxr.2.1⟩
          have HN := hid (HG.out (bits .xor .u8 (at1 E (1 + i0)) 1) ⟨hxr.1, hxr.2.1⟩ hxr.2.2)
          clear hxr
          have m1 := M1.out; have m2 := M2.out
          go_wp2_with fail
          clear m1 m2
          refine (oct.sum1 _ (some ⟨g, 0, none⟩) hh cap (E.take hh) (HB.out.rd.take hh (by omega)) (by omega)).mono ?_
          rintro x w6 ⟨rfl, q6, hw6⟩
          have o6 : Only [] w5 w6 := by rw [hw6]; exact (Only.refl [] _).drewN q6
          rw [HSZ.out]
          have HB := hid (HB.out.only_nil o6); have QB := hid (QB.out.trans o6)
          clear hw6 o6 c0 f0 cz
          have c0 := HB.out.cellD (1 + i0) (by omega)
          have f0 := HB.out.frozen (1 + i0)
          rw [at1_eq] at c0
          go_wp2_with fail
          generalize bits .xor .u8 (at1 E (1 + i0)) 1 = vb at *
          have HB2 := hid (HB.out.set (1 + i0) vb (hlp.u8wf HV.out))
          have QB2 := hid (QB.out.setCell (p := ⟨g, 1 + i0, none⟩) (Or.inr hlow) (.int .u8 vb))
          refine (decEarly _ (some ⟨g, 0, none⟩) L cap (E.set (1 + i0) vb) HB2.out.rd (by omega) (by omega) (by omega) HN.out).mono ?_
          rintro x w7 ⟨rfl, q7⟩
          have hde := HN.out
          generalize early (E.set (1 + i0) vb) = er at *
          have e1 : (er != 0) = true := by simpa using hde
          have Q5 := hid ((QB2.out.trans q7).alloc (.cells #[.int .i64 0, .int .i64 0, .bool false, .bool false, .int .i64 0, .int .i64 0, .int .i64 0, .int .u32 0, .int .u32 0, .slice none 0 0, .slice none 0 0] 26)); clear q7 hde
          go_wp2_with fail
          refine (known _ m (Q5.out.keep HM.out) (tab_only HT.out Q5.out)).mono ?_
          rintro x w8 ⟨rfl, o8⟩
          have Q6 := hid (Q5.out.trans o8); clear o8
          go_wp2
          go_ret
          exact ⟨rfl, Q6.out⟩
        · have hyb : (y == 0) = false := by simpa using hy0
          have hxr := oct.xor_ne (at1 E (1 + i0)) y hx (by omega) (by omega)
          have HV : Hid (0 ≤ bits .xor .u8 (at1 E (1 + i0)) y ∧ bits .xor .u8 (at1 E (1 + i0)) y ≤ 255) := hid ⟨hxr.1, hxr.2.1⟩
          have HN := hid (HG.out (bits .xor .u8 (at1 E (1 + i0)) y) ⟨hxr.1, hxr.2.1⟩ hxr.2.2)
          clear hxr
          have m1 := M1.out; have m2 := M2.out
          go_wp2_with fail
          clear m1 m2
          refine (oct.sum1 _ (some ⟨g, 0, none⟩) hh cap (E.take hh) (HB.out.rd.take hh (by omega)) (by omega)).mono ?_
          rintro x w6 ⟨rfl, q6, hw6⟩
          have o6 : Only [] w5 w6 := by rw [hw6]; exact (Only.refl [] _).drewN q6
          rw [HSZ.out]
          have HB := hid (HB.out.only_nil o6); have QB := hid (QB.out.trans o6)
          clear hw6 o6 c0 f0 cz
          have c0 := HB.out.cellD (1 + i0) (by omega)
          have f0 := HB.out.frozen (1 + i0)
          rw [at1_eq] at c0
          go_wp2_with fail
          generalize bits .xor .u8 (at1 E (1 + i0)) y = vb at *
          have HB2 := hid (HB.out.set (1 + i0) vb (hlp.u8wf HV.out))
          have QB2 := hid (QB.out.setCell (p := ⟨g, 1 + i0, none⟩) (Or.inr hlow) (.int .u8 vb))
          refine (decEarly _ (some ⟨g, 0, none⟩) L cap (E.set (1 + i0) vb) HB2.out.rd (by omega) (by omega) (by omega) HN.out).mono ?_
          rintro x w7 ⟨rfl, q7⟩
          have hde := HN.out
          generalize early (E.set (1 + i0) vb) = er at *
          have e1 : (er != 0) = true := by simpa using hde
          have Q5 := hid ((QB2.out.trans q7).alloc (.cells #[.int .i64 0, .int .i64 0, .bool false, .bool false, .int .i64 0, .int .i64 0, .int .i64 0, .int .u32 0, .int .u32 0, .slice none 0 0, .slice none 0 0] 26)); clear q7 hde
          go_wp2_with fail
          refine (known _ m (Q5.out.keep HM.out) (tab_only HT.out Q5.out)).mono ?_
          rintro x w8 ⟨rfl, o8⟩
          have Q6 := hid (Q5.out.trans o8); clear o8
          go_wp2
          go_ret
          exact ⟨rfl, Q6.out⟩
    · go_enter Tryd.func6, Tryd.ntmps6
      go_wp2_with fail
      refine hLong.out.mono ?_
      rintro x w1 ⟨rfl, o1⟩
      have QB := hid (QB.out.trans o1); have OB := hid (OB.out.only o1 (by simp)); clear o1 k0 k1 k2 k3 k4 k5 k6 k7 k8 k9 k10
      have k0 := OB.out.cell 0; have k1 := OB.out.cell 1; have k2 := OB.out.cell 2; have k3 := OB.out.cell 3; have k4 := OB.out.cell 4; have k5 := OB.out.cell 5; have k6 := OB.out.cell 6; have k7 := OB.out.cell 7; have k8 := OB.out.cell 8; have k9 := OB.out.cell 9; have k10 := OB.out.cell 10
      have E1 := fun W (h : Only [] w W) => encE W sv pid off lf pr wh mo fr to oA on oc dA dn dc o (HO.out.only_nil h) hnc HCM.out (by omega) (by omega) hch
      generalize chk sv pid off lf pr o dn = er at *
      have d1 : (er != 0) = true := by simpa using hch
      have E1 := hid E1
      go_wp2_with fail
      clear k0 k1 k2 k3 k4 k5 k6 k7 k8 k9 k10
      refine (E1.out _ QB.out).mono ?_
      rintro x w5 ⟨rfl, q5⟩
      have QB := hid (QB.out.trans q5)
      clear q5 hch
      go_wp2_with fail
      refine (known _ m (QB.out.keep HM.out) (tab_only HT.out QB.out)).mono ?_
      rintro x w12 ⟨rfl, q12⟩
      have QB := hid (QB.out.trans q12)
      go_wp2
      go_ret
      exact ⟨rfl, QB.out⟩
end Go.Proofs.YtaoeflngdlgboaaDoor.ip
