/-
  Chapter 6 (ipv4): a law: what a packet is written as is read as it, whatever stands behind. Conditions: none but those typed.
-/
import Derived.Test.YtaoeflngdlgboaaDoorIpY
import Derived.Test.YtaoeflngdlgboaaDoorOld
namespace Go.Proofs.YtaoeflngdlgboaaDoor.ip
set_option linter.unusedVariables false
set_option linter.unusedSimpArgs false
open Go.ChangeShapes Go.WideShapes Go.ChangeAt Go.RowKit Go.IntWalk Go.Lib
theorem decBack (w : World) (A : Option Addr) (n c : Nat) (l : List Int) (hl : Rd .u8 w A n l) (hnc : n ≤ c) (hcm : c ≤ maxLen) (hn : n ≤ 70000) {sv pid off lf pr : Int} {wh mo : Bool} {fr to : Int} {o d : List Int} (h : chk sv pid off lf pr o d.length = 0) (ho : ∀ z ∈ o, (Lit.int .u8 z).wf = true) (hf : 0 ≤ fr ∧ fr ≤ 4294967295) (ht : 0 ≤ to ∧ to ≤ 4294967295) (q : List Int) (hl' : l = encP sv pid off lf pr wh mo fr to o d ++ q) :
    Calls Tryd.prog 18 #[.slice A n c] w fun x w' => ∃ ov dv, ∃ t : Nat, x = .returned (.tuple #[.agg #[.int .i64 sv, .int .i64 pid, .bool wh, .bool mo, .int .i64 off, .int .i64 lf, .int .i64 pr, .int .u32 fr, .int .u32 to, ov, dv], .int .i64 0]) ∧ Own .u8 5 w' w.heap.size ov (oz o) ∧ Own .u8 5 w' t dv d ∧ (∀ k ∈ ov.ownBlock.toList, k < t) ∧ w.heap.size ≤ t ∧ Only [] w w' := by
  obtain ⟨f0, f1, f2, f3, f4, f5, f6, f7, f8, f9⟩ := back_facts h ho hf ht q l hl'
  have hN := (chk0 h).1
  unfold Nums at hN
  obtain ⟨b1, b2', b3, b4'⟩ := pbs_bits off wh mo hN.2.2.2.2.1 hN.2.2.2.2.2
  have := decOk w A n c l hl hnc hcm hn f0
  rw [f1, f2, f3, f4, f5, f6, f7, f8, f9, b1, b2', b4'] at this
  exact this
set_option maxRecDepth 100000 in
set_option maxHeartbeats 8000000 in
theorem back (w : World) (sv pid off lf pr : Int) (wh mo : Bool) (fr to : Int) (oA : Option Addr) (on oc : Nat) (dA : Option Addr) (dn dc : Nat) (A1 : Option Addr) (n1 k1 : Nat) (m : Int) (o d q : List Int) (ho : Rd .u8 w oA on o) (hoc : oA = none → oc = 0) (hnc : on ≤ oc) (hcm : oc ≤ maxLen) (hd : Rd .u8 w dA dn d) (hdc : dA = none → dc = 0) (hq : Rd .u8 w A1 n1 q) (hqc : A1 = none → k1 = 0) (hm : w.cell? ⟨1, 0, none⟩ = some (.int .i64 m)) (ht : Lib.TabIs Tryd.prog w "internal/strconv.uint64pow10" .u64 Lib.pow10Tab) (hfr : 0 ≤ fr ∧ fr ≤ 4294967295) (hto : 0 ≤ to ∧ to ≤ 4294967295) :
    Calls Tryd.prog 5 #[.agg #[.int .i64 sv, .int .i64 pid, .bool wh, .bool mo, .int .i64 off, .int .i64 lf, .int .i64 pr, .int .u32 fr, .int .u32 to, .slice oA on oc, .slice dA dn dc], .slice A1 n1 k1] w fun x w' => x = .returned (.bool true) ∧ Only [] w w' := by
  have HM := hid hm; have HT := hid ht; clear hm ht
  have HO := hid ho; have HD := hid hd; have HOC := hid hoc; have HDC := hid hdc
  have HOL := hid ho.len; have HDL := hid hd.len; have HOW := hid ho.wf
  have HQ := hid hq; have HQC := hid hqc; have HQL := hid hq.len
  have HCM := hid hcm
  clear ho hd hoc hdc hcm hq hqc
  have QB : Hid (Only [] w (w.alloc (.cells #[.int .i64 sv, .int .i64 pid, .bool wh, .bool mo, .int .i64 off, .int .i64 lf, .int .i64 pr, .int .u32 fr, .int .u32 to, .slice oA on oc, .slice dA dn dc] 26))) := hid ((Only.refl [] w).alloc _)
  have OB : Hid (Ob (w.alloc (.cells #[.int .i64 sv, .int .i64 pid, .bool wh, .bool mo, .int .i64 off, .int .i64 lf, .int .i64 pr, .int .u32 fr, .int .u32 to, .slice oA on oc, .slice dA dn dc] 26)) w.heap.size 26 #[.int .i64 sv, .int .i64 pid, .bool wh, .bool mo, .int .i64 off, .int .i64 lf, .int .i64 pr, .int .u32 fr, .int .u32 to, .slice oA on oc, .slice dA dn dc]) := hid (Ob.new _ _ _)
  have k0 := OB.out.cell 0; have k1 := OB.out.cell 1; have k2 := OB.out.cell 2; have k3 := OB.out.cell 3; have k4 := OB.out.cell 4; have k5 := OB.out.cell 5; have k6 := OB.out.cell 6; have k7 := OB.out.cell 7; have k8 := OB.out.cell 8; have k9 := OB.out.cell 9; have k10 := OB.out.cell 10
  have hLong := long1 (w.alloc (.cells #[.int .i64 sv, .int .i64 pid, .bool wh, .bool mo, .int .i64 off, .int .i64 lf, .int .i64 pr, .int .u32 fr, .int .u32 to, .slice oA on oc, .slice dA dn dc] 26)) sv pid off lf pr wh mo fr to oA on oc dA dn dc
  by_cases hlong : 70000 < dn ∨ 4000 < on
  · rw [show decide (70000 < dn ∨ 4000 < on) = true from decide_eq_true hlong] at hLong
    have hLong := hid hLong
    go_enter Tryd.func5, Tryd.ntmps5
    go_wp2_with fail
    refine hLong.out.mono ?_
    rintro x w1 ⟨rfl, o1⟩
    have QB := hid (QB.out.trans o1)
    go_wp2
    go_ret
    exact ⟨rfl, QB.out⟩
  · rw [show decide (70000 < dn ∨ 4000 < on) = false from decide_eq_false hlong] at hLong
    have hLong := hid hLong
    have hd7 : dn ≤ 70000 := by omega
    have ho4 : on ≤ 4000 := by omega
    clear hlong
    by_cases hmore : 4000 < n1
    · have n4 : (4000 : Int) < n1 := by omega
      go_enter Tryd.func5, Tryd.ntmps5
      go_wp2_with fail
      refine hLong.out.mono ?_
      rintro x w1 ⟨rfl, o1⟩
      have QB := hid (QB.out.trans o1)
      go_wp2
      go_ret
      exact ⟨rfl, QB.out⟩
    · have n4 : ¬ (4000 : Int) < n1 := by omega
      go_enter Tryd.func5, Tryd.ntmps5
      go_wp2_with fail
      refine hLong.out.mono ?_
      rintro x w1 ⟨rfl, o1⟩
      have QB := hid (QB.out.trans o1)
      have OB := hid (OB.out.only o1 (by simp)); clear o1 k0 k1 k2 k3 k4 k5 k6 k7 k8 k9 k10
      have k0 := OB.out.cell 0; have k1 := OB.out.cell 1; have k2 := OB.out.cell 2; have k3 := OB.out.cell 3; have k4 := OB.out.cell 4; have k5 := OB.out.cell 5; have k6 := OB.out.cell 6; have k7 := OB.out.cell 7; have k8 := OB.out.cell 8; have k9 := OB.out.cell 9; have k10 := OB.out.cell 10
      by_cases hch : chk sv pid off lf pr o dn = 0
      · skip
        go_wp2_with fail
        clear k0 k1 k2 k3 k4 k5 k6 k7 k8 k9 k10
        have hlt1 := OB.out.lt
        refine (enc1 _ sv pid off lf pr wh mo fr to oA on oc dA dn dc o d (HO.out.only_nil QB.out) HOC.out hnc HCM.out (by omega) (HD.out.only_nil QB.out) HDC.out (by omega) hch).mono ?_
        rintro x w5 ⟨v5, rfl, hv5, q5⟩
        obtain ⟨hN, hn40, hok, hll⟩ := chk0 hch
        rw [HOL.out] at hn40 hll
        unfold Nums at hN
        have hhb := hl_bd on
        obtain ⟨no, hno⟩ : ∃ no, no = hl on - 20 := ⟨_, rfl⟩
        obtain ⟨L, hL⟩ : ∃ L, L = hl on + dn := ⟨_, rfl⟩
        have hn4 : no % 4 = 0 ∧ on ≤ no ∧ no ≤ on + 3 ∧ no ≤ 40 ∧ 20 + no + dn ≤ L ∧ L ≤ 20 + no + dn ∧ L ≤ 65535 := by unfold hl at hno hL hll; omega
        have HCZ : Hid (chk sv pid off lf pr (oz o) dn = 0) := hid (chk_oz hch)
        have HOZ : Hid (o ++ List.replicate (no - on) 0 = oz o) := hid (by unfold oz; rw [HOL.out, hno])
        have HOZL : Hid ((oz o).length = no) := hid (by rw [oz_len, HOL.out, hno])
        have HE2 : Hid (encP sv pid off lf pr wh mo fr to (oz o) d = encP sv pid off lf pr wh mo fr to o d) := hid (encP_oz ..)
        have HDB : Hid (∀ (W : World) (A : Option Addr) (n c : Nat), Rd .u8 W A n (encP sv pid off lf pr wh mo fr to o d ++ q) → n ≤ c → c ≤ maxLen → n ≤ 70000 → Calls Tryd.prog 18 #[.slice A n c] W fun x w' => ∃ ov dv, ∃ t : Nat, x = .returned (.tuple #[.agg #[.int .i64 sv, .int .i64 pid, .bool wh, .bool mo, .int .i64 off, .int .i64 lf, .int .i64 pr, .int .u32 fr, .int .u32 to, ov, dv], .int .i64 0]) ∧ Own .u8 5 w' W.heap.size ov (oz o) ∧ Own .u8 5 w' t dv d ∧ (∀ k ∈ ov.ownBlock.toList, k < t) ∧ W.heap.size ≤ t ∧ Only [] W w') := hid (fun W A n c h1 h2 h3 h4 => decBack W A n c _ h1 h2 h3 h4 (by rw [HDL.out]; exact hch) HOW.out hfr hto q rfl)
        have HEL : Hid ((encP sv pid off lf pr wh mo fr to o d).length = L) := hid (by unfold encP; rw [List.length_append, hdr_len, HOL.out, HDL.out, hL])
        clear hch hok hll hL hno
        generalize encP sv pid off lf pr wh mo fr to o d = E at *
        obtain ⟨g, cap, rfl⟩ := hv5.some_form (by rw [HEL.out]; omega)
        rw [HEL.out] at hv5
        rw [HEL.out]
        have HB := hid hv5
        have hcc := hv5.len
        have hgb := hv5.base_le
        have OB := hid (OB.out.only q5 (by simp)); have QB := hid (QB.out.trans q5); clear q5 hv5
        have hQL := HQL.out
        go_wp2_with (at_builtin; refine wpList_appOld rfl (.tmp 35) (.tmp 36) _ rfl hlp.elemB w1.heap.size g L cap E rfl ?f1 A1 n1 k1 q rfl ?f2 ?f3 ?f4 ?f5 ?f6 ?_)
        case f1 => exact HB.out
        case f2 => exact HQ.out.only_nil QB.out
        case f3 => exact HQC.out
        case f4 => omega
        case f5 => unfold maxLen; omega
        case f6 => omega
        intro v7 w7 hv hg hrd
        have OB := hid (OB.out.grown hg (fun e => by injection e with e; omega)); have QB := hid (QB.out.of_grown hg (fun i hi => .inr (by injection hi with hi; omega))); have RE := hid hrd
        have hgl : g < w7.heap.size := by
          obtain ⟨_, _, e9, h9, _⟩ := hrd.at_ (by omega)
          injection e9 with e9; injection e9 with e9 e10; omega
        obtain ⟨A7, c7, ev7, hc7, hm7, r7, hb7⟩ := hv.slice
        rw [List.length_append, HEL.out, HQL.out] at ev7 hc7 r7
        subst ev7
        have R7 := hid r7
        clear hv hg hrd r7 hb7
        go_wp2_with fail
        have hlt7 := OB.out.lt
        refine (HDB.out _ A7 (L + n1) c7 R7.out hc7 hm7 (by omega)).mono ?_
        rintro x w8 ⟨ov, dv, t, rfl, hov, hdv, hdis, ht0, o8⟩
        have hgl8 := Nat.lt_of_lt_of_le hgl o8.size
        have OB := hid (OB.out.only o8 (by simp)); have QB := hid (QB.out.trans o8); have RE := hid (RE.out.only_nil o8)
        obtain ⟨Ao, co, evo, hco, hmo, ro, hbo⟩ := hov.slice
        have HOCo := hid (own_cap2 hov evo)
        have HBo : Hid (∀ bb oo, Ao = some ⟨bb, oo, none⟩ → w.heap.size < bb) := hid (fun bb oo e9 => by
          have h9 := (hov.lt bb (by rw [evo, e9]; rfl)).1; omega)
        obtain ⟨Ad, cd, evd, hcd, hmd, rd, hbd⟩ := hdv.slice
        have HOCd := hid (own_cap2 hdv evd)
        have HBd : Hid (∀ bb oo, Ad = some ⟨bb, oo, none⟩ → w.heap.size < bb) := hid (fun bb oo e9 => by
          have h9 := (hdv.lt bb (by rw [evd, e9]; rfl)).1; omega)
        rw [HOZL.out] at evo hco ro
        rw [HDL.out] at evd hcd rd
        subst evo evd
        have RO := hid ro; have RD := hid rd
        clear hov hdv hdis ro rd hbo hbd
        have oa : Only [] w8 (w8.alloc (.cells #[.int .i64 sv, .int .i64 pid, .bool wh, .bool mo, .int .i64 off, .int .i64 lf, .int .i64 pr, .int .u32 fr, .int .u32 to, .slice Ao no co, .slice Ad dn cd] 26)) := (Only.refl _ _).alloc _
        have OX : Hid (Ob (w8.alloc (.cells #[.int .i64 sv, .int .i64 pid, .bool wh, .bool mo, .int .i64 off, .int .i64 lf, .int .i64 pr, .int .u32 fr, .int .u32 to, .slice Ao no co, .slice Ad dn cd] 26)) w8.heap.size 26 #[.int .i64 sv, .int .i64 pid, .bool wh, .bool mo, .int .i64 off, .int .i64 lf, .int .i64 pr, .int .u32 fr, .int .u32 to, .slice Ao no co, .slice Ad dn cd]) := hid (Ob.new _ _ _)
        have hlt8 := OB.out.lt
        have OB := hid (OB.out.only oa (by simp)); have QB := hid (QB.out.trans oa); have RE := hid (RE.out.only_nil oa); have RO := hid (RO.out.only_nil oa); have RD := hid (RD.out.only_nil oa)
        clear oa o8
        go_wp2_with fail
        generalize hW9 : w8.alloc (.cells #[.int .i64 sv, .int .i64 pid, .bool wh, .bool mo, .int .i64 off, .int .i64 lf, .int .i64 pr, .int .u32 fr, .int .u32 to, .slice Ao no co, .slice Ad dn cd] 26) = W9 at *
        generalize hb8 : w8.heap.size = b8 at *
        clear hW9 hb8
        go_loopw [45] (fun _ wr => ∃ (nk : Nat) (A' : Option Addr) (c' : Nat), on ≤ nk ∧ nk ≤ no ∧ Hid (Ob wr w.heap.size 26 #[.int .i64 sv, .int .i64 pid, .bool wh, .bool mo, .int .i64 off, .int .i64 lf, .int .i64 pr, .int .u32 fr, .int .u32 to, (.slice A' nk c'), .slice dA dn dc]) ∧ Hid (Rd .u8 wr A' nk (o ++ List.replicate (nk - on) 0)) ∧ Hid (A' = none → c' = 0) ∧ Hid (Only [w.heap.size] W9 wr)) (fun _ wr => match wr.cell? ⟨w.heap.size, 9, none⟩ with | some (.slice _ n _) => no - n | _ => 0)
        case atStart => exact ⟨on, oA, oc, by omega, by omega, OB, hid (by simpa using HO.out.only_nil QB.out), HOC, hid (Only.refl _ _)⟩
        case round =>
          obtain ⟨nk, A', c', hk1, hk2, HOBr, HRr, HC', HQr⟩ := hrel
          have k9 : wr.cell? ⟨w.heap.size, 9, none⟩ = some (.slice A' nk c') := HOBr.out.cell 9
          have hltr := HOBr.out.lt
          by_cases hz : nk % 4 = 0
          · have hnk : nk = no := by omega
            subst hnk
            have e1 : ((nk : Nat) : Int) % 4 = 0 := by omega
            have e2 : ((nk : Nat) : Int).tmod 4 = 0 := by rw [Int.tmod_eq_emod_of_nonneg (by omega)]; exact e1
            rw [HOZ.out] at HRr
            have QB := hid (QB.out.fresh HQr.out (fun i hi => .inr (by simp at hi; omega)))
            have OX := hid (OX.out.only HQr.out (by simp; omega)); have RE := hid (RE.out.only HQr.out (fun bb oo e9 hlt hm => by injection e9 with e9; injection e9 with e9 e10; simp at hm; omega)); have RO := hid (RO.out.only HQr.out (fun bb oo e9 hlt hm => by have := HBo.out bb oo e9; simp at hm; omega)); have RD := hid (RD.out.only HQr.out (fun bb oo e9 hlt hm => by have := HBd.out bb oo e9; simp at hm; omega))
            clear HQr hk1 hk2
            go_wp2_with (first
              | (refine wp_loadObG rfl 26 (.tmp 2) rfl w.heap.size rfl _ 26 HOBr.out Tryd.underlying26 rfl (by kernel_rfl) ?_; try simp only [Act.put, List.setIfInBounds_toArray, List.set_cons_zero, List.set_cons_succ])
              | (refine wp_loadObG rfl 26 (.tmp 8) rfl b8 rfl _ 26 OX.out Tryd.underlying26 rfl (by kernel_rfl) ?_; try simp only [Act.put, List.setIfInBounds_toArray, List.set_cons_zero, List.set_cons_succ])
              | fail)
            refine (packets1 _ sv pid off lf pr wh mo fr to A' nk c' dA dn dc Ao co Ad cd (oz o) d HRr.out (HD.out.only_nil QB.out) RO.out RD.out (by omega) (by omega)).mono ?_
            rintro x w10 ⟨rfl, o10⟩
            have OX := hid (OX.out.only o10 (by simp)); have QB := hid (QB.out.trans o10); have RE := hid (RE.out.only_nil o10); have RO := hid (RO.out.only_nil o10); have RD := hid (RD.out.only_nil o10)
            clear o10 HRr HOBr
            go_wp2_with (first
              | (refine wp_loadOb rfl 26 (.tmp 8) rfl b8 rfl _ 26 OX.out Tryd.underlying26 rfl (by kernel_rfl) ?_; try simp only [Act.put, List.setIfInBounds_toArray, List.set_cons_zero, List.set_cons_succ])
              | fail)
            refine (enc1 _ sv pid off lf pr wh mo fr to Ao nk co Ad dn cd (oz o) d RO.out HOCo.out hco hmo (by omega) RD.out HOCd.out (by omega) HCZ.out).mono ?_
            rintro x w11 ⟨v11, rfl, hv11, o11⟩
            rw [HE2.out] at hv11
            obtain ⟨A11, c11, ev11, _, _, r11, _⟩ := hv11.slice
            rw [HEL.out] at ev11
            subst ev11
            have R11 := hid r11
            have QB := hid (QB.out.trans o11); have RE := hid (RE.out.only_nil o11)
            clear o11 hv11 r11
            have hLc : (L : Int) ≤ cap := by omega
            go_wp2_with fail
            refine (callsOnly (hlp.same _ A11 (some ⟨g, 0, none⟩) L L c11 cap E E (by have h9 := R11.out; rwa [HEL.out] at h9) RE.out (by omega) (by omega))).mono ?_
            rintro x w12 ⟨rfl, o12⟩
            rw [show decide (E = E) = true from decide_eq_true rfl]
            have QB := hid (QB.out.trans o12); clear o12
            go_wp2_with fail
            refine (known _ m (QB.out.keep HM.out) (tab_only HT.out QB.out)).mono ?_
            rintro x w13 ⟨rfl, o13⟩
            have QB := hid (QB.out.trans o13)
            go_wp2
            go_ret
            exact ⟨rfl, QB.out⟩
          · have e1 : ¬ ((nk : Nat) : Int) % 4 = 0 := by omega
            have e2 : ¬ ((nk : Nat) : Int).tmod 4 = 0 := by rw [Int.tmod_eq_emod_of_nonneg (by omega)]; exact e1
            have hlst : (o ++ List.replicate (nk - on) 0).length = nk := by rw [List.length_append, List.length_replicate, HOL.out]; omega
            have hnext : o ++ List.replicate (nk + 1 - on) 0 = (o ++ List.replicate (nk - on) 0) ++ [0] := by
              rw [List.append_assoc, show nk + 1 - on = (nk - on) + 1 from by omega, List.replicate_succ']
            have HNX := hid hnext; clear hnext
            generalize o ++ List.replicate (nk - on) 0 = lst at *
            have k9a := (World.cell?_alloc_lt wr (.cells #[] 5) ⟨w.heap.size, 9, none⟩ hltr).trans k9
            have H0 : Hid (Own .u8 5 (wr.alloc (.cells #[] 5)) wr.heap.size (.slice (some ⟨wr.heap.size, 0, none⟩) 0 0) []) := hid (Own.lit .u8 _ wr _ [] _ 0 rfl rfl (Nat.le_refl _) (by decide) (by simp))
            go_wp2_with (at_builtin; refine wpList_app _ rfl (.tmp 46) (.tmp 48) _ rfl hlp.elemB wr.heap.size _ [] rfl ?g1 A' nk c' lst rfl ?g2 ?g3 ?g4 ?g5 ?g6 ?_)
            case g1 => exact H0.out
            case g2 => exact HRr.out.alloc _
            case g3 => exact HC'.out
            case g4 => simp; omega
            case g5 => unfold maxLen; simp; omega
            case g6 => simp
            intro v1 w1 hv1 hg1 hb1
            have V1 : Hid (Own .u8 5 w1 wr.heap.size v1 lst) := hid hv1
            have G1 : Hid (Only [] wr w1) := hid (((Only.refl [] wr).alloc _).of_grown hg1 (by intro k hk; simp [Value.ownBlock] at hk; omega))
            have s1 := G1.out.size
            clear hv1 hg1 hb1 k9a
            go_wp2_with (at_builtin; refine wpList_app _ rfl (.tmp 49) (.tmp 50) _ rfl hlp.elemB wr.heap.size v1 lst rfl ?h1 (some ⟨w1.heap.size, 0, none⟩) 1 1 [0] rfl ?h2 ?h3 ?h4 ?h5 ?h6 ?_)
            case h1 => exact V1.out.alloc _
            case h2 => exact (Own.lit .u8 5 w1 wr.heap.size [0] _ 1 rfl rfl s1 (by decide) (by decide)).rd
            case h3 => simp
            case h4 => rw [hlst]; omega
            case h5 => rw [hlst]; unfold maxLen; omega
            case h6 => simp; omega
            intro v2 w2 hv2 hg2 hb2
            have G2 : Hid (Only [] wr w2) := hid ((G1.out.alloc _).of_grown hg2 (fun k hk => .inr (V1.out.lt k hk).1))
            obtain ⟨A2, c2, ev2, _, _, _, _⟩ := hv2.slice
            rw [List.length_append, hlst] at ev2
            subst ev2
            have V2 := hid hv2
            clear hv2 hg2 hb2
            have OB2 := hid (HOBr.out.only G2.out (by simp))
            have q0 := OB2.out.cell 9; have q1 := OB2.out.frozen 9
            have Q9 : Hid (Only [w.heap.size] w2 (w2.setCell ⟨w.heap.size, 9, none⟩ (.slice A2 (nk + 1) c2))) := hid ((Only.refl [w.heap.size] w2).setCell (p := ⟨w.heap.size, 9, none⟩) (Or.inl (by simp)) _)
            have V3 := hid (V2.out.only Q9.out (fun k hk hm => by have := (V2.out.lt k hk).1; simp at hm; omega))
            have OB3 : Hid (Ob (w2.setCell ⟨w.heap.size, 9, none⟩ (.slice A2 (nk + 1) c2)) w.heap.size 26 #[.int .i64 sv, .int .i64 pid, .bool wh, .bool mo, .int .i64 off, .int .i64 lf, .int .i64 pr, .int .u32 fr, .int .u32 to, .slice A2 (nk + 1) c2, .slice dA dn dc]) := hid (OB2.out.set 9 _)
            have k9b : (w2.setCell ⟨w.heap.size, 9, none⟩ (.slice A2 (nk + 1) c2)).cell? ⟨w.heap.size, 9, none⟩ = some (.slice A2 (nk + 1) c2) := OB3.out.cell 9
            have HQ3 := hid ((HQr.out.trans (only_mono G2.out)).trans Q9.out)
            obtain ⟨A3, c3, ev3, _, _, r3, _⟩ := V3.out.slice
            have HN3 := hid (own_cap2 V3.out ev3)
            injection ev3 with ev3 ev4 ev5
            subst ev3 ev5
            have R3 : Hid (Rd .u8 (w2.setCell ⟨w.heap.size, 9, none⟩ (.slice A2 (nk + 1) c2)) A2 (nk + 1) (o ++ List.replicate (nk + 1 - on) 0)) := hid (by rw [HNX.out]; have h9 := r3; rw [List.length_append, hlst] at h9; exact h9)
            go_wp2
            go_roundw
            case rel => exact ⟨nk + 1, A2, c2, by omega, by omega, OB3, R3, HN3, HQ3⟩
            case measure => simp only [k9, k9b]; omega
      · skip
        have E1 := fun W (h : Only [] w W) => encE W sv pid off lf pr wh mo fr to oA on oc dA dn dc o (HO.out.only_nil h) hnc HCM.out (by omega) (by omega) hch
        generalize chk sv pid off lf pr o dn = er at *
        have d1 : (er != 0) = true := by simpa using hch
        have E1 := hid E1
        go_wp2_with fail
        clear k0 k1 k2 k3 k4 k5 k6 k7 k8 k9 k10
        refine (E1.out _ QB.out).mono ?_
        rintro x w5 ⟨rfl, q5⟩
        have QB := hid (QB.out.trans q5)
        clear q5 hch
        go_wp2_with fail
        refine (known _ m (QB.out.keep HM.out) (tab_only HT.out QB.out)).mono ?_
        rintro x w12 ⟨rfl, q12⟩
        have QB := hid (QB.out.trans q12)
        go_wp2
        go_ret
        exact ⟨rfl, QB.out⟩
end Go.Proofs.YtaoeflngdlgboaaDoor.ip
