/-
  Chapter 6 (ipv4): two packets that are one; and a law: a packet that ends too early is refused. Conditions: none but those typed.
-/
import Derived.Test.YtaoeflngdlgboaaDoorIpG
import Derived.Test.YtaoeflngdlgboaaDoorIpH
namespace Go.Proofs.YtaoeflngdlgboaaDoor.ip
set_option linter.unusedVariables false
set_option linter.unusedSimpArgs false
open Go.ChangeShapes Go.WideShapes Go.ChangeAt Go.RowKit Go.IntWalk Go.Lib
set_option maxRecDepth 100000 in
set_option maxHeartbeats 600000 in
theorem packets1 (w : World) (sv pid off lf pr : Int) (wh mo : Bool) (fr to : Int) (oA : Option Addr) (on oc : Nat) (dA : Option Addr) (dn dc : Nat) (oB : Option Addr) (oe : Nat) (dB : Option Addr) (de : Nat) (o d : List Int) (ho : Rd .u8 w oA on o) (hd : Rd .u8 w dA dn d) (ho2 : Rd .u8 w oB on o) (hd2 : Rd .u8 w dB dn d) (hn : on ≤ 100000) (hdn : dn ≤ 200000) :
    Calls Tryd.prog 20 #[.agg #[.int .i64 sv, .int .i64 pid, .bool wh, .bool mo, .int .i64 off, .int .i64 lf, .int .i64 pr, .int .u32 fr, .int .u32 to, .slice oA on oc, .slice dA dn dc], .agg #[.int .i64 sv, .int .i64 pid, .bool wh, .bool mo, .int .i64 off, .int .i64 lf, .int .i64 pr, .int .u32 fr, .int .u32 to, .slice oB on oe, .slice dB dn de]] w fun x w' => x = .returned (.bool true) ∧ Only [] w w' := by
  have Q : Hid (Only [] w ((w.alloc (.cells #[.int .i64 sv, .int .i64 pid, .bool wh, .bool mo, .int .i64 off, .int .i64 lf, .int .i64 pr, .int .u32 fr, .int .u32 to, .slice oA on oc, .slice dA dn dc] 26)).alloc (.cells #[.int .i64 sv, .int .i64 pid, .bool wh, .bool mo, .int .i64 off, .int .i64 lf, .int .i64 pr, .int .u32 fr, .int .u32 to, .slice oB on oe, .slice dB dn de] 26))) := hid (((Only.refl [] w).alloc _).alloc _)
  have O1 : Hid (Ob ((w.alloc (.cells #[.int .i64 sv, .int .i64 pid, .bool wh, .bool mo, .int .i64 off, .int .i64 lf, .int .i64 pr, .int .u32 fr, .int .u32 to, .slice oA on oc, .slice dA dn dc] 26)).alloc (.cells #[.int .i64 sv, .int .i64 pid, .bool wh, .bool mo, .int .i64 off, .int .i64 lf, .int .i64 pr, .int .u32 fr, .int .u32 to, .slice oB on oe, .slice dB dn de] 26)) w.heap.size 26 #[.int .i64 sv, .int .i64 pid, .bool wh, .bool mo, .int .i64 off, .int .i64 lf, .int .i64 pr, .int .u32 fr, .int .u32 to, .slice oA on oc, .slice dA dn dc]) := hid ((Ob.new _ _ _).alloc _)
  have O2 : Hid (Ob ((w.alloc (.cells #[.int .i64 sv, .int .i64 pid, .bool wh, .bool mo, .int .i64 off, .int .i64 lf, .int .i64 pr, .int .u32 fr, .int .u32 to, .slice oA on oc, .slice dA dn dc] 26)).alloc (.cells #[.int .i64 sv, .int .i64 pid, .bool wh, .bool mo, .int .i64 off, .int .i64 lf, .int .i64 pr, .int .u32 fr, .int .u32 to, .slice oB on oe, .slice dB dn de] 26)) (w.heap.size + 1) 26 #[.int .i64 sv, .int .i64 pid, .bool wh, .bool mo, .int .i64 off, .int .i64 lf, .int .i64 pr, .int .u32 fr, .int .u32 to, .slice oB on oe, .slice dB dn de]) := hid (by simpa using Ob.new (w.alloc (.cells #[.int .i64 sv, .int .i64 pid, .bool wh, .bool mo, .int .i64 off, .int .i64 lf, .int .i64 pr, .int .u32 fr, .int .u32 to, .slice oA on oc, .slice dA dn dc] 26)) 26 #[.int .i64 sv, .int .i64 pid, .bool wh, .bool mo, .int .i64 off, .int .i64 lf, .int .i64 pr, .int .u32 fr, .int .u32 to, .slice oB on oe, .slice dB dn de])
  have H1 := hid ho; have H2 := hid hd; have H3 := hid ho2; have H4 := hid hd2
  clear ho hd ho2 hd2
  have j0 := O1.out.cell 0; have j1 := O1.out.cell 1; have j2 := O1.out.cell 2; have j3 := O1.out.cell 3; have j4 := O1.out.cell 4; have j5 := O1.out.cell 5; have j6 := O1.out.cell 6; have j7 := O1.out.cell 7; have j8 := O1.out.cell 8; have j9 := O1.out.cell 9; have j10 := O1.out.cell 10
  have e0 := O2.out.cell 0; have e1 := O2.out.cell 1; have e2 := O2.out.cell 2; have e3 := O2.out.cell 3; have e4 := O2.out.cell 4; have e5 := O2.out.cell 5; have e6 := O2.out.cell 6; have e7 := O2.out.cell 7; have e8 := O2.out.cell 8; have e9 := O2.out.cell 9; have e10 := O2.out.cell 10
  go_enter Tryd.func20, Tryd.ntmps20
  go_wp2_with fail
  refine (hlp.same _ _ _ _ _ _ _ o o (H1.out.only_nil Q.out) (H3.out.only_nil Q.out) (by omega) (by omega)).mono ?_
  rintro x w3 ⟨rfl, q3, hw3⟩
  have o3 : Only [] ((w.alloc (.cells #[.int .i64 sv, .int .i64 pid, .bool wh, .bool mo, .int .i64 off, .int .i64 lf, .int .i64 pr, .int .u32 fr, .int .u32 to, .slice oA on oc, .slice dA dn dc] 26)).alloc (.cells #[.int .i64 sv, .int .i64 pid, .bool wh, .bool mo, .int .i64 off, .int .i64 lf, .int .i64 pr, .int .u32 fr, .int .u32 to, .slice oB on oe, .slice dB dn de] 26)) w3 := by rw [hw3]; exact (Only.refl [] _).drewN q3
  rw [show decide (o = o) = true from decide_eq_true rfl]
  have Q := hid (Q.out.trans o3); have O1 := hid (O1.out.only o3 (by simp)); have O2 := hid (O2.out.only o3 (by simp))
  clear hw3 o3
  clear j0 e0 j1 e1 j2 e2 j3 e3 j4 e4 j5 e5 j6 e6 j7 e7 j8 e8 j9 e9 j10 e10
  have j0 := O1.out.cell 0; have j1 := O1.out.cell 1; have j2 := O1.out.cell 2; have j3 := O1.out.cell 3; have j4 := O1.out.cell 4; have j5 := O1.out.cell 5; have j6 := O1.out.cell 6; have j7 := O1.out.cell 7; have j8 := O1.out.cell 8; have j9 := O1.out.cell 9; have j10 := O1.out.cell 10
  have e0 := O2.out.cell 0; have e1 := O2.out.cell 1; have e2 := O2.out.cell 2; have e3 := O2.out.cell 3; have e4 := O2.out.cell 4; have e5 := O2.out.cell 5; have e6 := O2.out.cell 6; have e7 := O2.out.cell 7; have e8 := O2.out.cell 8; have e9 := O2.out.cell 9; have e10 := O2.out.cell 10
  go_wp2_with fail
  refine (hlp.same _ _ _ _ _ _ _ d d (H2.out.only_nil Q.out) (H4.out.only_nil Q.out) (by omega) (by omega)).mono ?_
  rintro x w4 ⟨rfl, q4, hw4⟩
  have o4 : Only [] w3 w4 := by rw [hw4]; exact (Only.refl [] _).drewN q4
  rw [show decide (d = d) = true from decide_eq_true rfl]
  have Q := hid (Q.out.trans o4)
  clear hw4 o4
  clear j0 e0 j1 e1 j2 e2 j3 e3 j4 e4 j5 e5 j6 e6 j7 e7 j8 e8 j9 e9 j10 e10
  go_wp2
  go_ret
  exact ⟨rfl, Q.out⟩
/-- A packet that ends too early. -/
theorem early_cut {sv pid off lf pr : Int} {wh mo : Bool} {fr to : Int} {o d : List Int} (h : chk sv pid off lf pr o d.length = 0) (k : Nat) (hk : k < (encP sv pid off lf pr wh mo fr to o d).length) : early ((encP sv pid off lf pr wh mo fr to o d).take k) = 2 := by
  obtain ⟨hN, hn40, hok, hll⟩ := chk0 h
  unfold Nums at hN
  have hb := hl_bd o.length
  have hlen : (encP sv pid off lf pr wh mo fr to o d).length = hl o.length + d.length := by unfold encP; rw [List.length_append, hdr_len]
  have hkl : ((encP sv pid off lf pr wh mo fr to o d).take k).length = k := by rw [List.length_take]; omega
  unfold early
  rw [hkl]
  by_cases h20 : k < 20
  · rw [if_pos h20]
  · rw [if_neg h20]
    have gt : ∀ i, i < k → ((encP sv pid off lf pr wh mo fr to o d).take k).getD i 0 = (encP sv pid off lf pr wh mo fr to o d).getD i 0 := fun i hi => by
      simp [List.getD_eq_getElem?_getD, List.getElem?_take, hi]
    have g0 : ((encP sv pid off lf pr wh mo fr to o d).take k).getD 0 0 = (64 + (hl o.length : Nat) / 4 : Int) % 256 := by rw [gt 0 (by omega)]; rfl
    have g2 : ((encP sv pid off lf pr wh mo fr to o d).take k).getD 2 0 = ((hl o.length : Nat) + (d.length : Int)) / 256 % 256 := by rw [gt 2 (by omega)]; rfl
    have g3 : ((encP sv pid off lf pr wh mo fr to o d).take k).getD 3 0 = ((hl o.length : Nat) + (d.length : Int)) % 256 := by rw [gt 3 (by omega)]; rfl
    have hm4 : hl o.length % 4 = 0 := by unfold hl; omega
    have e0 : hd ((encP sv pid off lf pr wh mo fr to o d).take k) = (hl o.length : Int) := by unfold hd; rw [g0]; omega
    have e1 : tot ((encP sv pid off lf pr wh mo fr to o d).take k) = (hl o.length : Int) + d.length := by unfold tot; rw [g2, g3]; omega
    rw [g0, if_neg (by omega), e0, if_neg (by omega), e1]
    by_cases hkh : (k : Int) < hl o.length
    · rw [if_pos hkh]
    · rw [if_neg hkh, if_neg (by omega), if_pos (by omega)]
set_option maxRecDepth 100000 in
set_option maxHeartbeats 600000 in
theorem cuts (w : World) (sv pid off lf pr : Int) (wh mo : Bool) (fr to : Int) (oA : Option Addr) (on oc : Nat) (dA : Option Addr) (dn dc : Nat) (nn m : Int) (o d : List Int) (ho : Rd .u8 w oA on o) (hoc : oA = none → oc = 0) (hnc : on ≤ oc) (hcm : oc ≤ maxLen) (hd : Rd .u8 w dA dn d) (hdc : dA = none → dc = 0) (hm : w.cell? ⟨1, 0, none⟩ = some (.int .i64 m)) (ht : Lib.TabIs Tryd.prog w "internal/strconv.uint64pow10" .u64 Lib.pow10Tab) (hnn : -9223372036854775808 ≤ nn ∧ nn ≤ 9223372036854775807) :
    Calls Tryd.prog 9 #[.agg #[.int .i64 sv, .int .i64 pid, .bool wh, .bool mo, .int .i64 off, .int .i64 lf, .int .i64 pr, .int .u32 fr, .int .u32 to, .slice oA on oc, .slice dA dn dc], .int .i64 nn] w fun x w' => x = .returned (.bool true) ∧ Only [] w w' := by
  have HM := hid hm; have HT := hid ht; clear hm ht
  have HO := hid ho; have HD := hid hd; have HOC := hid hoc; have HDC := hid hdc
  have HOL := hid ho.len; have HDL := hid hd.len
  have HCM := hid hcm
  clear ho hd hoc hdc hcm
  have QB : Hid (Only [] w (w.alloc (.cells #[.int .i64 sv, .int .i64 pid, .bool wh, .bool mo, .int .i64 off, .int .i64 lf, .int .i64 pr, .int .u32 fr, .int .u32 to, .slice oA on oc, .slice dA dn dc] 26))) := hid ((Only.refl [] w).alloc _)
  have OB : Hid (Ob (w.alloc (.cells #[.int .i64 sv, .int .i64 pid, .bool wh, .bool mo, .int .i64 off, .int .i64 lf, .int .i64 pr, .int .u32 fr, .int .u32 to, .slice oA on oc, .slice dA dn dc] 26)) w.heap.size 26 #[.int .i64 sv, .int .i64 pid, .bool wh, .bool mo, .int .i64 off, .int .i64 lf, .int .i64 pr, .int .u32 fr, .int .u32 to, .slice oA on oc, .slice dA dn dc]) := hid (Ob.new _ _ _)
  have k0 := OB.out.cell 0; have k1 := OB.out.cell 1; have k2 := OB.out.cell 2; have k3 := OB.out.cell 3; have k4 := OB.out.cell 4; have k5 := OB.out.cell 5; have k6 := OB.out.cell 6; have k7 := OB.out.cell 7; have k8 := OB.out.cell 8; have k9 := OB.out.cell 9; have k10 := OB.out.cell 10
  have hLong := long1 (w.alloc (.cells #[.int .i64 sv, .int .i64 pid, .bool wh, .bool mo, .int .i64 off, .int .i64 lf, .int .i64 pr, .int .u32 fr, .int .u32 to, .slice oA on oc, .slice dA dn dc] 26)) sv pid off lf pr wh mo fr to oA on oc dA dn dc
  by_cases hlong : 70000 < dn ∨ 4000 < on
  · rw [show decide (70000 < dn ∨ 4000 < on) = true from decide_eq_true hlong] at hLong
    have hLong := hid hLong
    go_enter Tryd.func9, Tryd.ntmps9
    go_wp2_with fail
    refine hLong.out.mono ?_
    rintro x w1 ⟨rfl, o1⟩
    have QB := hid (QB.out.trans o1)
    go_wp2
    go_ret
    exact ⟨rfl, QB.out⟩
  · rw [show decide (70000 < dn ∨ 4000 < on) = false from decide_eq_false hlong] at hLong
    have hLong := hid hLong
    have hd7 : dn ≤ 70000 := by omega
    have ho4 : on ≤ 4000 := by omega
    clear hlong
    go_enter Tryd.func9, Tryd.ntmps9
    go_wp2_with fail
    refine hLong.out.mono ?_
    rintro x w1 ⟨rfl, o1⟩
    have QB := hid (QB.out.trans o1); have OB := hid (OB.out.only o1 (by simp)); clear o1 k0 k1 k2 k3 k4 k5 k6 k7 k8 k9 k10
    have k0 := OB.out.cell 0; have k1 := OB.out.cell 1; have k2 := OB.out.cell 2; have k3 := OB.out.cell 3; have k4 := OB.out.cell 4; have k5 := OB.out.cell 5; have k6 := OB.out.cell 6; have k7 := OB.out.cell 7; have k8 := OB.out.cell 8; have k9 := OB.out.cell 9; have k10 := OB.out.cell 10
    by_cases hch : chk sv pid off lf pr o dn = 0
    · go_wp2_with fail
      clear k0 k1 k2 k3 k4 k5 k6 k7 k8 k9 k10
      refine (enc1 _ sv pid off lf pr wh mo fr to oA on oc dA dn dc o d (HO.out.only_nil QB.out) HOC.out hnc HCM.out (by omega) (HD.out.only_nil QB.out) HDC.out (by omega) hch).mono ?_
      rintro x w5 ⟨v5, rfl, hv5, q5⟩
      have HLE : Hid ((encP sv pid off lf pr wh mo fr to o d).length = hl on + dn) := hid (by unfold encP; rw [List.length_append, hdr_len, HOL.out, HDL.out])
      have hhb := hl_bd on
      obtain ⟨g, cap, rfl⟩ := hv5.some_form (by rw [HLE.out]; omega)
      have HEC : Hid (∀ k : Nat, k < hl on + dn → early ((encP sv pid off lf pr wh mo fr to o d).take k) = 2) := hid (fun k hk => early_cut (by rw [HDL.out]; exact hch) k (by rw [HLE.out]; exact hk))
      have RE := hid hv5.rd
      have hcc := hv5.len.2
      have QB := hid (QB.out.trans q5); clear q5 hv5 hch
      generalize encP sv pid off lf pr wh mo fr to o d = E at *
      obtain ⟨L, hL⟩ : ∃ L, L = hl on + dn := ⟨_, rfl⟩
      rw [← hL] at HEC HLE
      have hL20 : 20 ≤ L := by omega
      have hLb : L ≤ 100000 := by omega
      have HLL := hid hL; clear hL hhb
      rw [HLE.out]
      rw [HLE.out] at hcc RE
      have hge : ¬ (L : Int) < 20 := by omega
      have hnz : ¬ (L : Int) = 0 := by omega
      have h1 := Int.tmod_lt_of_pos nn (show (0 : Int) < (L : Int) by omega)
      have h2 : -(L : Int) < nn.tmod (L : Int) := by
        have := Int.lt_tmod_of_pos nn (show (0 : Int) < (L : Int) by omega)
        omega
      obtain ⟨i0, hi0, hr⟩ : ∃ i0 : Nat, i0 < L ∧ (nn.tmod (L : Int) = (i0 : Int) ∨ nn.tmod (L : Int) = (i0 : Int) - (L : Int)) := by
        by_cases hp : 0 ≤ nn.tmod (L : Int)
        · exact ⟨(nn.tmod (L : Int)).toNat, by omega, .inl (by omega)⟩
        · exact ⟨(nn.tmod (L : Int) + L).toNat, by omega, .inr (by omega)⟩
      clear h1 h2
      have hic : i0 ≤ cap := by omega
      have HDec := fun W (h : Rd .u8 W (some ⟨g, 0, none⟩) i0 (E.take i0)) => decEarly W (some ⟨g, 0, none⟩) i0 cap (E.take i0) h (by omega) hcc.2 (by omega) (by rw [HEC.out i0 hi0]; decide)
      have HDec := hid HDec
      have HE2 := hid (HEC.out i0 hi0)
      rcases hr with hr | hr
      all_goals
        go_wp2_with fail
        refine (HDec.out _ (RE.out.take i0 (by omega))).mono ?_
        rintro x w6 ⟨rfl, q6⟩
        rw [HE2.out]
        have QB := hid (QB.out.trans q6); clear q6
        go_wp2_with fail
        refine (packets1 _ 0 0 0 0 0 false false 0 0 none 0 0 none 0 0 none 0 none 0 [] [] (Rd.nil _ _ _) (Rd.nil _ _ _) (Rd.nil _ _ _) (Rd.nil _ _ _) (by omega) (by omega)).mono ?_
        rintro x w7 ⟨rfl, q7⟩
        have QB := hid ((QB.out.alloc (.cells #[.int .i64 0, .int .i64 0, .bool false, .bool false, .int .i64 0, .int .i64 0, .int .i64 0, .int .u32 0, .int .u32 0, .slice none 0 0, .slice none 0 0] 26)).trans q7); clear q7
        go_wp2_with fail
        refine (known _ m (QB.out.keep HM.out) (tab_only HT.out QB.out)).mono ?_
        rintro x w12 ⟨rfl, q12⟩
        have QB := hid (QB.out.trans q12)
        go_wp2
        go_ret
        exact ⟨rfl, QB.out⟩
    · have E1 := fun W (h : Only [] w W) => encE W sv pid off lf pr wh mo fr to oA on oc dA dn dc o (HO.out.only_nil h) hnc HCM.out (by omega) (by omega) hch
      generalize chk sv pid off lf pr o dn = er at *
      have d1 : (er != 0) = true := by simpa using hch
      have E1 := hid E1
      go_wp2_with fail
      clear k0 k1 k2 k3 k4 k5 k6 k7 k8 k9 k10
      refine (E1.out _ QB.out).mono ?_
      rintro x w5 ⟨rfl, q5⟩
      have QB := hid (QB.out.trans q5)
      clear q5 hch
      go_wp2_with fail
      refine (known _ m (QB.out.keep HM.out) (tab_only HT.out QB.out)).mono ?_
      rintro x w12 ⟨rfl, q12⟩
      have QB := hid (QB.out.trans q12)
      go_wp2
      go_ret
      exact ⟨rfl, QB.out⟩
end Go.Proofs.YtaoeflngdlgboaaDoor.ip
