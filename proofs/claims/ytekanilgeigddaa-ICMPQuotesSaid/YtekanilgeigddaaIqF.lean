/-
  Chapter 6 (ipv4): the document's own error of a packet, and its header, by a walk of each text. Conditions: none but those typed.
-/
import Derived.Test.YtekanilgeigddaaIqE
import Derived.Test.YtekanilgeigddaaRef6
namespace Go.Proofs.Ytekanilgeigddaa.ip
set_option linter.unusedVariables false
set_option linter.unusedSimpArgs false
open Go.ChangeShapes Go.WideShapes Go.ChangeAt Go.RowKit Go.IntWalk Go.Lib
set_option maxRecDepth 100000 in
set_option maxHeartbeats 8000000 in
theorem may1 (w : World) (sv pid off lf pr : Int) (wh mo : Bool) (fr to : Int) (oA : Option Addr) (on oc : Nat) (dA : Option Addr) (dn dc : Nat) (o : List Int) (ho : Rd .u8 w oA on o) (hnc : on ≤ oc) (hcm : oc ≤ maxLen) (hn : on ≤ 100000) (hdn : dn ≤ 100000) : Calls Try.prog 46 #[.agg #[.int .i64 sv, .int .i64 pid, .bool wh, .bool mo, .int .i64 off, .int .i64 lf, .int .i64 pr, .int .u32 fr, .int .u32 to, .slice oA on oc, .slice dA dn dc]] w fun x w' => x = .returned (.int .i64 (chk sv pid off lf pr o dn)) ∧ Only [] w w' := by
  have HO := hid ho
  have HOL := hid ho.len
  clear ho
  have HBad : Hid (¬ Nums sv pid off lf pr → (1 : Int) = chk sv pid off lf pr o dn) := hid (fun h => by unfold chk; rw [if_neg h])
  have HGood : Hid (Nums sv pid off lf pr → chk sv pid off lf pr o dn = if 40 < o.length then 3 else if okO o = false then 3 else if 65535 - (hl o.length : Int) < off + dn then 5 else 0) := hid (fun h => by unfold chk; rw [if_pos h])
  have QB : Hid (Only [] w (w.alloc (.cells #[.int .i64 sv, .int .i64 pid, .bool wh, .bool mo, .int .i64 off, .int .i64 lf, .int .i64 pr, .int .u32 fr, .int .u32 to, .slice oA on oc, .slice dA dn dc] 46))) := hid ((Only.refl [] w).alloc _)
  have OB : Hid (Ob (w.alloc (.cells #[.int .i64 sv, .int .i64 pid, .bool wh, .bool mo, .int .i64 off, .int .i64 lf, .int .i64 pr, .int .u32 fr, .int .u32 to, .slice oA on oc, .slice dA dn dc] 46)) w.heap.size 46 #[.int .i64 sv, .int .i64 pid, .bool wh, .bool mo, .int .i64 off, .int .i64 lf, .int .i64 pr, .int .u32 fr, .int .u32 to, .slice oA on oc, .slice dA dn dc]) := hid (Ob.new _ _ _)
  have k0 := OB.out.cell 0; have k1 := OB.out.cell 1; have k2 := OB.out.cell 2; have k3 := OB.out.cell 3; have k4 := OB.out.cell 4; have k5 := OB.out.cell 5; have k6 := OB.out.cell 6; have k7 := OB.out.cell 7; have k8 := OB.out.cell 8; have k9 := OB.out.cell 9; have k10 := OB.out.cell 10
  go_enter Try.func46, Try.ntmps46
  by_cases q0 : sv < 0
  · have e0 : decide (sv < 0) = true := decide_eq_true q0
    have hr := hid (HBad.out (by unfold Nums; omega))
    go_wp2
    all_goals first | (exfalso; omega) | (go_ret; exact ⟨rInt hr.out, QB.out⟩)
  · have e0 : decide (sv < 0) = false := decide_eq_false q0
    by_cases q1 : 255 < sv
    · have e1 : decide (255 < sv) = true := decide_eq_true q1
      have hr := hid (HBad.out (by unfold Nums; omega))
      go_wp2
      all_goals first | (exfalso; omega) | (go_ret; exact ⟨rInt hr.out, QB.out⟩)
    · have e1 : decide (255 < sv) = false := decide_eq_false q1
      by_cases q2 : lf < 0
      · have e2 : decide (lf < 0) = true := decide_eq_true q2
        have hr := hid (HBad.out (by unfold Nums; omega))
        go_wp2
        all_goals first | (exfalso; omega) | (go_ret; exact ⟨rInt hr.out, QB.out⟩)
      · have e2 : decide (lf < 0) = false := decide_eq_false q2
        by_cases q3 : 255 < lf
        · have e3 : decide (255 < lf) = true := decide_eq_true q3
          have hr := hid (HBad.out (by unfold Nums; omega))
          go_wp2
          all_goals first | (exfalso; omega) | (go_ret; exact ⟨rInt hr.out, QB.out⟩)
        · have e3 : decide (255 < lf) = false := decide_eq_false q3
          by_cases q4 : pr < 0
          · have e4 : decide (pr < 0) = true := decide_eq_true q4
            have hr := hid (HBad.out (by unfold Nums; omega))
            go_wp2
            all_goals first | (exfalso; omega) | (go_ret; exact ⟨rInt hr.out, QB.out⟩)
          · have e4 : decide (pr < 0) = false := decide_eq_false q4
            by_cases q5 : 255 < pr
            · have e5 : decide (255 < pr) = true := decide_eq_true q5
              have hr := hid (HBad.out (by unfold Nums; omega))
              go_wp2
              all_goals first | (exfalso; omega) | (go_ret; exact ⟨rInt hr.out, QB.out⟩)
            · have e5 : decide (255 < pr) = false := decide_eq_false q5
              by_cases q6 : pid < 0
              · have e6 : decide (pid < 0) = true := decide_eq_true q6
                have hr := hid (HBad.out (by unfold Nums; omega))
                go_wp2
                all_goals first | (exfalso; omega) | (go_ret; exact ⟨rInt hr.out, QB.out⟩)
              · have e6 : decide (pid < 0) = false := decide_eq_false q6
                by_cases q7 : 65535 < pid
                · have e7 : decide (65535 < pid) = true := decide_eq_true q7
                  have hr := hid (HBad.out (by unfold Nums; omega))
                  go_wp2
                  all_goals first | (exfalso; omega) | (go_ret; exact ⟨rInt hr.out, QB.out⟩)
                · have e7 : decide (65535 < pid) = false := decide_eq_false q7
                  by_cases q8 : off < 0
                  · have e8 : decide (off < 0) = true := decide_eq_true q8
                    have hr := hid (HBad.out (by unfold Nums; omega))
                    go_wp2
                    all_goals first | (exfalso; omega) | (go_ret; exact ⟨rInt hr.out, QB.out⟩)
                  · have e8 : decide (off < 0) = false := decide_eq_false q8
                    by_cases q9 : 65528 < off
                    · have e9 : decide (65528 < off) = true := decide_eq_true q9
                      have hr := hid (HBad.out (by unfold Nums; omega))
                      go_wp2
                      all_goals first | (exfalso; omega) | (go_ret; exact ⟨rInt hr.out, QB.out⟩)
                    · have e9 : decide (65528 < off) = false := decide_eq_false q9
                      by_cases hm : off % 8 = 0
                      · have d1 : (off % 8 != 0) = false := by simpa using hm
                        have HG := hid (HGood.out (by unfold Nums; omega))
                        by_cases ho : 40 < on
                        · have d2 : decide (40 < (on : Int)) = true := decide_eq_true (by omega)
                          have hr : Hid ((3 : Int) = chk sv pid off lf pr o dn) := hid (by rw [HG.out, if_pos (by rw [HOL.out]; exact ho)])
                          go_wp2
                          go_ret
                          exact ⟨rInt hr.out, QB.out⟩
                        · have ho2 : ¬ (40 < (on : Int)) := by omega
                          cases hok : okO o with
                          | false =>
                            have hr : Hid ((3 : Int) = chk sv pid off lf pr o dn) := hid (by rw [HG.out, if_neg (by rw [HOL.out]; exact ho), if_pos hok])
                            have HWF := fun W (h : Rd .u8 W oA on o) => op1 W oA on oc o false h hnc hcm (by omega) (by rw [← hok]; exact ofs_okO o)
                            have HWF := hid HWF
                            clear hok hcm
                            go_wp2_with fail
                            refine (HWF.out _ (HO.out.only_nil QB.out)).mono ?_
                            rintro x w' ⟨rfl, rfl⟩
                            go_wp2
                            go_ret
                            exact ⟨rInt hr.out, QB.out⟩
                          | true =>
                            have HG2 : Hid (chk sv pid off lf pr o dn = if 65535 - (hl on : Int) < off + dn then 5 else 0) := hid (by rw [HG.out, if_neg (by rw [HOL.out]; exact ho), if_neg (by rw [hok]; decide), HOL.out])
                            have HWF := fun W (h : Rd .u8 W oA on o) => op1 W oA on oc o true h hnc hcm (by omega) (by rw [← hok]; exact ofs_okO o)
                            have HWF := hid HWF
                            have hhl := hl_bd on
                            clear hok hcm HG
                            go_wp2_with fail
                            refine (HWF.out _ (HO.out.only_nil QB.out)).mono ?_
                            rintro x w9 ⟨rfl, rfl⟩
                            go_wp2_with fail
                            refine (head2 _ sv pid off lf pr wh mo fr to oA on oc dA dn dc (by omega)).mono ?_
                            rintro x w2 ⟨rfl, q2⟩
                            obtain ⟨hhn, hhe⟩ : ∃ q : Nat, q = hl on := ⟨_, rfl⟩
                            rw [← hhe] at HG2 hhl
                            rw [← hhe]
                            clear hhe k0 k1 k2 k3 k4 k5 k6 k7 k8 k9 k10
                            have OB := hid (OB.out.only q2 (by simp)); have QB := hid (QB.out.trans q2); clear q2
                            have k0 := OB.out.cell 0; have k1 := OB.out.cell 1; have k2 := OB.out.cell 2; have k3 := OB.out.cell 3; have k4 := OB.out.cell 4; have k5 := OB.out.cell 5; have k6 := OB.out.cell 6; have k7 := OB.out.cell 7; have k8 := OB.out.cell 8; have k9 := OB.out.cell 9; have k10 := OB.out.cell 10
                            have g1 : IntKind.i64.wrap (65535 - (hhn : Int)) = 65535 - hhn := i64_in _ (by omega)
                            have g2 : IntKind.i64.wrap (off + (dn : Int)) = off + dn := i64_in _ (by omega)
                            have G1 := hid g1; have G2 := hid g2; clear g1 g2
                            by_cases h4 : 65535 - (hhn : Int) < dn
                            · have hr : Hid ((5 : Int) = chk sv pid off lf pr o dn) := hid (by rw [HG2.out, if_pos (by omega)])
                              go_wp2
                              all_goals first | (exfalso; omega) | (go_ret; exact ⟨rInt hr.out, QB.out⟩)
                            · by_cases h5 : 65535 - (hhn : Int) < off + dn
                              · have hr : Hid ((5 : Int) = chk sv pid off lf pr o dn) := hid (by rw [HG2.out, if_pos h5])
                                go_wp2
                                all_goals first | (exfalso; omega) | (go_ret; exact ⟨rInt hr.out, QB.out⟩)
                              · have hr : Hid ((0 : Int) = chk sv pid off lf pr o dn) := hid (by rw [HG2.out, if_neg h5])
                                go_wp2
                                all_goals first | (exfalso; omega) | (go_ret; exact ⟨rInt hr.out, QB.out⟩)
                      · have d1 : (off % 8 != 0) = true := by simpa using hm
                        have hr := hid (HBad.out (by unfold Nums; omega))
                        go_wp2
                        all_goals first | (exfalso; omega) | (go_ret; exact ⟨rInt hr.out, QB.out⟩)
theorem hdr_wf (sv pid off lf pr : Int) (wh mo : Bool) (fr to : Int) (o : List Int) (dn : Nat) (s : Int) (ho : ∀ z ∈ o, (Lit.int .u8 z).wf = true) : ∀ z ∈ hdr sv pid off lf pr wh mo fr to o dn s, (Lit.int .u8 z).wf = true := by
  intro z hz
  simp only [hdr, b2, b4, List.mem_append, List.mem_cons, List.not_mem_nil, or_false] at hz
  rcases hz with ((((((((((h | h) | h) | h) | h) | h) | h) | h) | h) | h) | h)
  all_goals first
    | exact ho z h
    | (rw [List.eq_of_mem_replicate h]; exact hlp.u8wf (by omega))
    | (apply hlp.u8wf; rcases h with rfl | rfl | rfl | rfl <;> omega)
    | (apply hlp.u8wf; rcases h with rfl | rfl <;> omega)
    | (apply hlp.u8wf; subst h; omega)
set_option maxRecDepth 100000 in
set_option maxHeartbeats 16000000 in
theorem rhdr (w : World) (sv pid off lf pr : Int) (wh mo : Bool) (fr to : Int) (oA : Option Addr) (on oc : Nat) (dA : Option Addr) (dn dc : Nat) (o : List Int) (ho : Rd .u8 w oA on o) (hoc : oA = none → oc = 0) (hn : on ≤ 40) (hdn : dn ≤ 100000) (hN : Nums sv pid off lf pr) :
    Calls Try.prog 47 #[.agg #[.int .i64 sv, .int .i64 pid, .bool wh, .bool mo, .int .i64 off, .int .i64 lf, .int .i64 pr, .int .u32 fr, .int .u32 to, .slice oA on oc, .slice dA dn dc], .int .i64 dn] w fun x w' => ∃ v, x = .returned v ∧ Own .u8 5 w' w.heap.size v (hdr sv pid off lf pr wh mo fr to o dn (sumH sv pid off lf pr wh mo fr to o dn)) ∧ Only [] w w' := by
  unfold Nums at hN
  obtain ⟨⟨s0, s1⟩, ⟨l0, l1⟩, ⟨p0, p1⟩, ⟨i0, i1⟩, ⟨f0, f1⟩, f8⟩ := hN
  have HO := hid ho; have HOC := hid hoc; have HOLen := hid ho.len
  clear ho hoc
  have OB : Hid (Ob (w.alloc (.cells #[.int .i64 sv, .int .i64 pid, .bool wh, .bool mo, .int .i64 off, .int .i64 lf, .int .i64 pr, .int .u32 fr, .int .u32 to, .slice oA on oc, .slice dA dn dc] 46)) w.heap.size 46 #[.int .i64 sv, .int .i64 pid, .bool wh, .bool mo, .int .i64 off, .int .i64 lf, .int .i64 pr, .int .u32 fr, .int .u32 to, .slice oA on oc, .slice dA dn dc]) := hid (Ob.new _ _ _)
  have Q0 : Hid (Only [] w (w.alloc (.cells #[.int .i64 sv, .int .i64 pid, .bool wh, .bool mo, .int .i64 off, .int .i64 lf, .int .i64 pr, .int .u32 fr, .int .u32 to, .slice oA on oc, .slice dA dn dc] 46))) := hid ((Only.refl [] w).alloc _)
  have hhb := hl_bd on
  obtain ⟨pre, hpre⟩ : ∃ pre, pre = [(64 + (hl on : Nat) / 4 : Int) % 256, sv % 256] ++ b2 ((hl on : Nat) + (dn : Int)) ++ b2 pid ++ b2 (pbs off wh mo) ++ [lf % 256] ++ [pr % 256] ++ b2 0 ++ b4 fr ++ b4 to ++ o := ⟨_, rfl⟩
  have HPre := hid hpre
  have HPL : Hid (pre.length = 20 + on) := hid (by rw [hpre]; simp [b2, b4, HOLen.out]; omega)
  have HHD : Hid (hdr sv pid off lf pr wh mo fr to o dn 0 = pre ++ List.replicate (hl on - 20 - on) 0) := hid (by rw [hpre]; unfold hdr; rw [HOLen.out])
  clear hpre
  have HSU : Hid (oct.sumF (hdr sv pid off lf pr wh mo fr to o dn 0) = sumH sv pid off lf pr wh mo fr to o dn) := hid rfl
  have HSET : Hid (hdr sv pid off lf pr wh mo fr to o dn (sumH sv pid off lf pr wh mo fr to o dn) = ((hdr sv pid off lf pr wh mo fr to o dn 0).set 10 (sumH sv pid off lf pr wh mo fr to o dn / 256)).set 11 (sumH sv pid off lf pr wh mo fr to o dn % 256)) := hid (by
    have hb : 0 ≤ sumH sv pid off lf pr wh mo fr to o dn ∧ sumH sv pid off lf pr wh mo fr to o dn ≤ 65535 := by
      have hw : 0 ≤ oct.ws (hdr sv pid off lf pr wh mo fr to o dn 0) := (oct.ws_bd _ (fun z hz => u8Bd (hdr_wf _ _ _ _ _ _ _ _ _ _ _ _ (fun z hz => HO.out.wf z hz) z hz))).1
      have := oct.F_bd (oct.ws (hdr sv pid off lf pr wh mo fr to o dn 0)) hw
      unfold sumH oct.sumF; omega
    generalize sumH sv pid off lf pr wh mo fr to o dn = s at *
    have : s / 256 % 256 = s / 256 := by omega
    simp [hdr, b2, this])
  generalize sumH sv pid off lf pr wh mo fr to o dn = sm at *
  have hhv : (hl on : Int) / 4 ≤ 15 ∧ 5 ≤ (hl on : Int) / 4 := by omega
  obtain ⟨m, hm, hm2⟩ : ∃ m : Nat, off / 8 = m ∧ m < 8192 := ⟨(off / 8).toNat, by omega, by omega⟩
  have h14 : ∀ q, q < 16384 → 16384 ||| q = 16384 + q := fun q hq => by simpa using nat_or_mul 1 q 14 (by omega)
  have h13 : ∀ q, q < 8192 → 8192 ||| q = 8192 + q := fun q hq => by simpa using nat_or_mul 1 q 13 (by omega)
  have e1 : m ||| 16384 = m + 16384 := by rw [Nat.or_comm, h14 m (by omega)]; omega
  have e2 : m ||| 8192 = m + 8192 := by rw [Nat.or_comm, h13 m (by omega)]; omega
  have e3 : (m + 16384) ||| 8192 = m + 16384 + 8192 := by
    rw [← e1, Nat.or_comm m 16384, Nat.or_assoc, e2, h14 (m + 8192) (by omega), h14 m (by omega)]; omega
  clear h14 h13
  have o1 : bits .or .i64 (off / 8) 16384 = off / 8 + 16384 := by rw [hm]; have h := i64_or_nat m 16384 (by omega) (by omega); rw [e1] at h; simpa using h
  have o2 : bits .or .i64 (off / 8) 8192 = off / 8 + 8192 := by rw [hm]; have h := i64_or_nat m 8192 (by omega) (by omega); rw [e2] at h; simpa using h
  have o3 : bits .or .i64 (off / 8 + 16384) 8192 = off / 8 + 16384 + 8192 := by rw [hm]; have h := i64_or_nat (m + 16384) 8192 (by omega) (by omega); rw [e3] at h; simpa using h
  clear e1 e2 e3 hm hm2 m
  have k0 := OB.out.cell 0; have k1 := OB.out.cell 1; have k2 := OB.out.cell 2; have k3 := OB.out.cell 3; have k4 := OB.out.cell 4; have k5 := OB.out.cell 5; have k6 := OB.out.cell 6; have k7 := OB.out.cell 7; have k8 := OB.out.cell 8; have k9 := OB.out.cell 9; have k10 := OB.out.cell 10
  cases wh <;> cases mo
  · skip
    go_enter Try.func47, Try.ntmps47
    go_wp2_with fail
    refine (head2 _ sv pid off lf pr false false fr to oA on oc dA dn dc (by omega)).mono ?_
    rintro x w1 ⟨rfl, o1⟩
    generalize hhe : hl on = hh at *
    have HHE := hid hhe; clear hhe
    have OB := hid (OB.out.only o1 (by simp)); have Q0 := hid (Q0.out.trans o1); clear o1 k0 k1 k2 k3 k4 k5 k6 k7 k8 k9 k10
    have k0 := OB.out.cell 0; have k1 := OB.out.cell 1; have k2 := OB.out.cell 2; have k3 := OB.out.cell 3; have k4 := OB.out.cell 4; have k5 := OB.out.cell 5; have k6 := OB.out.cell 6; have k7 := OB.out.cell 7; have k8 := OB.out.cell 8; have k9 := OB.out.cell 9; have k10 := OB.out.cell 10
    have hgs : w.heap.size < w1.heap.size := OB.out.lt
    have VL : Hid (Own .u8 5 (w1.alloc (.cells #[.int .u8 (64 + (hh : Int) / 4), .int .u8 sv] 5)) w1.heap.size (.slice (some ⟨w1.heap.size, 0, none⟩) 2 2) [(64 + (hh : Int) / 4), sv]) := hid (Own.lit .u8 5 w1 w1.heap.size [(64 + (hh : Int) / 4), sv] _ 2 rfl rfl (Nat.le_refl _) (by simp [maxLen]) (by intro z hz; simp at hz; apply hlp.u8wf; omega))
    have V0 := VL; clear VL
    have B : Hid (Below w1.heap.size w1 (w1.alloc (.cells #[.int .u8 (64 + (hh : Int) / 4), .int .u8 sv] 5))) := hid ((Below.refl _ _).alloc (Nat.le_refl _) _)
    have OB := hid (OB.out.alloc (.cells #[.int .u8 (64 + (hh : Int) / 4), .int .u8 sv] 5))
    go_wp2_with fail
    refine (ref.two1 _ (((hh : Nat) : Int) + (dn : Int))).mono ?_
    rintro x w11 ⟨g11, rfl, h11, o11⟩
    have V0 := hid (V0.out.only_nil o11); have P := hid h11.rd; have OB := hid (OB.out.only o11 (by simp)); have B := hid (B.out.trans (o11.below_nil.mono B.out.size)); clear h11 o11 k0 k1 k2 k3 k4 k5 k6 k7 k8 k9 k10
    have k0 := OB.out.cell 0; have k1 := OB.out.cell 1; have k2 := OB.out.cell 2; have k3 := OB.out.cell 3; have k4 := OB.out.cell 4; have k5 := OB.out.cell 5; have k6 := OB.out.cell 6; have k7 := OB.out.cell 7; have k8 := OB.out.cell 8; have k9 := OB.out.cell 9; have k10 := OB.out.cell 10
    go_wp2_with (at_builtin; refine wpList_app _ rfl (.tmp 30) (.tmp 34) _ rfl hlp.elemB w1.heap.size _ ([64 + (hh : Int) / 4, sv]) rfl ?c31a (some ⟨g11, 0, none⟩) 2 2 (ref.two (((hh : Nat) : Int) + (dn : Int))) rfl ?c31b ?c31c ?c31d ?c31e ?c31f ?_)
    case c31a => exact V0.out
    case c31b => exact P.out
    case c31c => simp
    case c31d => first | (simp [ref.two, ref.four]; done) | (simp [ref.two, ref.four]; omega) | omega
    case c31e => unfold maxLen; first | (simp [ref.two, ref.four]; done) | (simp [ref.two, ref.four]; omega) | omega
    case c31f => have := B.out.size; first | omega | (simp; omega) | (simp at this; simp; omega)
    intro v31 W31 hv hg hb
    have V31 := hid hv
    have B := hid (B.out.grown hg (by have := B.out.size; first | omega | (simp; omega) | (simp at this; simp; omega)) (fun k hk => ((V0.out).lt k hk).1))
    have OB := hid (OB.out.grown hg (own_neP6 OB.out V0.out))
    clear hv hg hb
    clear P V0 k0 k1 k2 k3 k4 k5 k6 k7 k8 k9 k10
    have k0 := OB.out.cell 0; have k1 := OB.out.cell 1; have k2 := OB.out.cell 2; have k3 := OB.out.cell 3; have k4 := OB.out.cell 4; have k5 := OB.out.cell 5; have k6 := OB.out.cell 6; have k7 := OB.out.cell 7; have k8 := OB.out.cell 8; have k9 := OB.out.cell 9; have k10 := OB.out.cell 10
    go_wp2_with fail
    refine (ref.two1 _ pid).mono ?_
    rintro x w12 ⟨g12, rfl, h12, o12⟩
    have V31 := hid (V31.out.only_nil o12); have P := hid h12.rd; have OB := hid (OB.out.only o12 (by simp)); have B := hid (B.out.trans (o12.below_nil.mono B.out.size)); clear h12 o12 k0 k1 k2 k3 k4 k5 k6 k7 k8 k9 k10
    have k0 := OB.out.cell 0; have k1 := OB.out.cell 1; have k2 := OB.out.cell 2; have k3 := OB.out.cell 3; have k4 := OB.out.cell 4; have k5 := OB.out.cell 5; have k6 := OB.out.cell 6; have k7 := OB.out.cell 7; have k8 := OB.out.cell 8; have k9 := OB.out.cell 9; have k10 := OB.out.cell 10
    go_wp2_with (at_builtin; refine wpList_app _ rfl (.tmp 36) (.tmp 39) _ rfl hlp.elemB w1.heap.size _ ([64 + (hh : Int) / 4, sv] ++ ref.two (((hh : Nat) : Int) + (dn : Int))) rfl ?c32a (some ⟨g12, 0, none⟩) 2 2 (ref.two pid) rfl ?c32b ?c32c ?c32d ?c32e ?c32f ?_)
    case c32a => exact V31.out
    case c32b => exact P.out
    case c32c => simp
    case c32d => first | (simp [ref.two, ref.four]; done) | (simp [ref.two, ref.four]; omega) | omega
    case c32e => unfold maxLen; first | (simp [ref.two, ref.four]; done) | (simp [ref.two, ref.four]; omega) | omega
    case c32f => have := B.out.size; first | omega | (simp; omega) | (simp at this; simp; omega)
    intro v32 W32 hv hg hb
    have V32 := hid hv
    have B := hid (B.out.grown hg (by have := B.out.size; first | omega | (simp; omega) | (simp at this; simp; omega)) (fun k hk => ((V31.out).lt k hk).1))
    have OB := hid (OB.out.grown hg (own_neP6 OB.out V31.out))
    clear hv hg hb
    clear P V31 k0 k1 k2 k3 k4 k5 k6 k7 k8 k9 k10
    have k0 := OB.out.cell 0; have k1 := OB.out.cell 1; have k2 := OB.out.cell 2; have k3 := OB.out.cell 3; have k4 := OB.out.cell 4; have k5 := OB.out.cell 5; have k6 := OB.out.cell 6; have k7 := OB.out.cell 7; have k8 := OB.out.cell 8; have k9 := OB.out.cell 9; have k10 := OB.out.cell 10
    go_wp2_with fail
    refine (ref.two1 _ (off / 8)).mono ?_
    rintro x w13 ⟨g13, rfl, h13, o13⟩
    have V32 := hid (V32.out.only_nil o13); have P := hid h13.rd; have OB := hid (OB.out.only o13 (by simp)); have B := hid (B.out.trans (o13.below_nil.mono B.out.size)); clear h13 o13 k0 k1 k2 k3 k4 k5 k6 k7 k8 k9 k10
    have k0 := OB.out.cell 0; have k1 := OB.out.cell 1; have k2 := OB.out.cell 2; have k3 := OB.out.cell 3; have k4 := OB.out.cell 4; have k5 := OB.out.cell 5; have k6 := OB.out.cell 6; have k7 := OB.out.cell 7; have k8 := OB.out.cell 8; have k9 := OB.out.cell 9; have k10 := OB.out.cell 10
    go_wp2_with (at_builtin; refine wpList_app _ rfl (.tmp 41) (.tmp 43) _ rfl hlp.elemB w1.heap.size _ ([64 + (hh : Int) / 4, sv] ++ ref.two (((hh : Nat) : Int) + (dn : Int)) ++ ref.two pid) rfl ?c33a (some ⟨g13, 0, none⟩) 2 2 (ref.two (off / 8)) rfl ?c33b ?c33c ?c33d ?c33e ?c33f ?_)
    case c33a => exact V32.out
    case c33b => exact P.out
    case c33c => simp
    case c33d => first | (simp [ref.two, ref.four]; done) | (simp [ref.two, ref.four]; omega) | omega
    case c33e => unfold maxLen; first | (simp [ref.two, ref.four]; done) | (simp [ref.two, ref.four]; omega) | omega
    case c33f => have := B.out.size; first | omega | (simp; omega) | (simp at this; simp; omega)
    intro v33 W33 hv hg hb
    have V33 := hid hv
    have B := hid (B.out.grown hg (by have := B.out.size; first | omega | (simp; omega) | (simp at this; simp; omega)) (fun k hk => ((V32.out).lt k hk).1))
    have OB := hid (OB.out.grown hg (own_neP6 OB.out V32.out))
    clear hv hg hb
    clear P V32 k0 k1 k2 k3 k4 k5 k6 k7 k8 k9 k10
    have k0 := OB.out.cell 0; have k1 := OB.out.cell 1; have k2 := OB.out.cell 2; have k3 := OB.out.cell 3; have k4 := OB.out.cell 4; have k5 := OB.out.cell 5; have k6 := OB.out.cell 6; have k7 := OB.out.cell 7; have k8 := OB.out.cell 8; have k9 := OB.out.cell 9; have k10 := OB.out.cell 10
    have VL : Hid (Own .u8 5 (W33.alloc (.cells #[.int .u8 lf, .int .u8 pr, .int .u8 0, .int .u8 0] 5)) w1.heap.size (.slice (some ⟨W33.heap.size, 0, none⟩) 4 4) [lf, pr, 0, 0]) := hid (Own.lit .u8 5 W33 w1.heap.size [lf, pr, 0, 0] _ 4 rfl rfl B.out.size (by simp [maxLen]) (by intro z hz; simp at hz; apply hlp.u8wf; omega))
    have B := hid (B.out.alloc B.out.size (.cells #[.int .u8 lf, .int .u8 pr, .int .u8 0, .int .u8 0] 5)); have V33 := hid (V33.out.alloc (.cells #[.int .u8 lf, .int .u8 pr, .int .u8 0, .int .u8 0] 5)); have OB := hid (OB.out.alloc (.cells #[.int .u8 lf, .int .u8 pr, .int .u8 0, .int .u8 0] 5))
    go_wp2_with (at_builtin; refine wpList_app _ rfl (.tmp 45) (.tmp 52) _ rfl hlp.elemB w1.heap.size _ ([64 + (hh : Int) / 4, sv] ++ ref.two (((hh : Nat) : Int) + (dn : Int)) ++ ref.two pid ++ ref.two (off / 8)) rfl ?c34a (some ⟨W33.heap.size, 0, none⟩) 4 4 ([lf, pr, 0, 0]) rfl ?c34b ?c34c ?c34d ?c34e ?c34f ?_)
    case c34a => exact V33.out
    case c34b => exact VL.out.rd
    case c34c => simp
    case c34d => first | (simp [ref.two, ref.four]; done) | (simp [ref.two, ref.four]; omega) | omega
    case c34e => unfold maxLen; first | (simp [ref.two, ref.four]; done) | (simp [ref.two, ref.four]; omega) | omega
    case c34f => have := B.out.size; first | omega | (simp; omega) | (simp at this; simp; omega)
    intro v34 W34 hv hg hb
    have V34 := hid hv
    have B := hid (B.out.grown hg (by have := B.out.size; first | omega | (simp; omega) | (simp at this; simp; omega)) (fun k hk => ((V33.out).lt k hk).1))
    have OB := hid (OB.out.grown hg (own_neP6 OB.out V33.out))
    clear hv hg hb
    clear VL V33 k0 k1 k2 k3 k4 k5 k6 k7 k8 k9 k10
    have k0 := OB.out.cell 0; have k1 := OB.out.cell 1; have k2 := OB.out.cell 2; have k3 := OB.out.cell 3; have k4 := OB.out.cell 4; have k5 := OB.out.cell 5; have k6 := OB.out.cell 6; have k7 := OB.out.cell 7; have k8 := OB.out.cell 8; have k9 := OB.out.cell 9; have k10 := OB.out.cell 10
    go_wp2_with fail
    refine (ref.four1 _ fr).mono ?_
    rintro x w15 ⟨g15, rfl, h15, o15⟩
    have V34 := hid (V34.out.only_nil o15); have P := hid h15.rd; have OB := hid (OB.out.only o15 (by simp)); have B := hid (B.out.trans (o15.below_nil.mono B.out.size)); clear h15 o15 k0 k1 k2 k3 k4 k5 k6 k7 k8 k9 k10
    have k0 := OB.out.cell 0; have k1 := OB.out.cell 1; have k2 := OB.out.cell 2; have k3 := OB.out.cell 3; have k4 := OB.out.cell 4; have k5 := OB.out.cell 5; have k6 := OB.out.cell 6; have k7 := OB.out.cell 7; have k8 := OB.out.cell 8; have k9 := OB.out.cell 9; have k10 := OB.out.cell 10
    go_wp2_with (at_builtin; refine wpList_app _ rfl (.tmp 54) (.tmp 57) _ rfl hlp.elemB w1.heap.size _ ([64 + (hh : Int) / 4, sv] ++ ref.two (((hh : Nat) : Int) + (dn : Int)) ++ ref.two pid ++ ref.two (off / 8) ++ [lf, pr, 0, 0]) rfl ?c35a (some ⟨g15, 0, none⟩) 4 4 (ref.four fr) rfl ?c35b ?c35c ?c35d ?c35e ?c35f ?_)
    case c35a => exact V34.out
    case c35b => exact P.out
    case c35c => simp
    case c35d => first | (simp [ref.two, ref.four]; done) | (simp [ref.two, ref.four]; omega) | omega
    case c35e => unfold maxLen; first | (simp [ref.two, ref.four]; done) | (simp [ref.two, ref.four]; omega) | omega
    case c35f => have := B.out.size; first | omega | (simp; omega) | (simp at this; simp; omega)
    intro v35 W35 hv hg hb
    have V35 := hid hv
    have B := hid (B.out.grown hg (by have := B.out.size; first | omega | (simp; omega) | (simp at this; simp; omega)) (fun k hk => ((V34.out).lt k hk).1))
    have OB := hid (OB.out.grown hg (own_neP6 OB.out V34.out))
    clear hv hg hb
    clear P V34 k0 k1 k2 k3 k4 k5 k6 k7 k8 k9 k10
    have k0 := OB.out.cell 0; have k1 := OB.out.cell 1; have k2 := OB.out.cell 2; have k3 := OB.out.cell 3; have k4 := OB.out.cell 4; have k5 := OB.out.cell 5; have k6 := OB.out.cell 6; have k7 := OB.out.cell 7; have k8 := OB.out.cell 8; have k9 := OB.out.cell 9; have k10 := OB.out.cell 10
    go_wp2_with fail
    refine (ref.four1 _ to).mono ?_
    rintro x w16 ⟨g16, rfl, h16, o16⟩
    have V35 := hid (V35.out.only_nil o16); have P := hid h16.rd; have OB := hid (OB.out.only o16 (by simp)); have B := hid (B.out.trans (o16.below_nil.mono B.out.size)); clear h16 o16 k0 k1 k2 k3 k4 k5 k6 k7 k8 k9 k10
    have k0 := OB.out.cell 0; have k1 := OB.out.cell 1; have k2 := OB.out.cell 2; have k3 := OB.out.cell 3; have k4 := OB.out.cell 4; have k5 := OB.out.cell 5; have k6 := OB.out.cell 6; have k7 := OB.out.cell 7; have k8 := OB.out.cell 8; have k9 := OB.out.cell 9; have k10 := OB.out.cell 10
    go_wp2_with (at_builtin; refine wpList_app _ rfl (.tmp 59) (.tmp 62) _ rfl hlp.elemB w1.heap.size _ ([64 + (hh : Int) / 4, sv] ++ ref.two (((hh : Nat) : Int) + (dn : Int)) ++ ref.two pid ++ ref.two (off / 8) ++ [lf, pr, 0, 0] ++ ref.four fr) rfl ?c36a (some ⟨g16, 0, none⟩) 4 4 (ref.four to) rfl ?c36b ?c36c ?c36d ?c36e ?c36f ?_)
    case c36a => exact V35.out
    case c36b => exact P.out
    case c36c => simp
    case c36d => first | (simp [ref.two, ref.four]; done) | (simp [ref.two, ref.four]; omega) | omega
    case c36e => unfold maxLen; first | (simp [ref.two, ref.four]; done) | (simp [ref.two, ref.four]; omega) | omega
    case c36f => have := B.out.size; first | omega | (simp; omega) | (simp at this; simp; omega)
    intro v36 W36 hv hg hb
    have V36 := hid hv
    have B := hid (B.out.grown hg (by have := B.out.size; first | omega | (simp; omega) | (simp at this; simp; omega)) (fun k hk => ((V35.out).lt k hk).1))
    have OB := hid (OB.out.grown hg (own_neP6 OB.out V35.out))
    clear hv hg hb
    clear P V35 k0 k1 k2 k3 k4 k5 k6 k7 k8 k9 k10
    have k0 := OB.out.cell 0; have k1 := OB.out.cell 1; have k2 := OB.out.cell 2; have k3 := OB.out.cell 3; have k4 := OB.out.cell 4; have k5 := OB.out.cell 5; have k6 := OB.out.cell 6; have k7 := OB.out.cell 7; have k8 := OB.out.cell 8; have k9 := OB.out.cell 9; have k10 := OB.out.cell 10
    go_wp2_with (at_builtin; refine wpList_app _ rfl (.tmp 64) (.tmp 66) _ rfl hlp.elemB w1.heap.size _ ([64 + (hh : Int) / 4, sv] ++ ref.two (((hh : Nat) : Int) + (dn : Int)) ++ ref.two pid ++ ref.two (off / 8) ++ [lf, pr, 0, 0] ++ ref.four fr ++ ref.four to) rfl ?c37a oA on oc (o) rfl ?c37b ?c37c ?c37d ?c37e ?c37f ?_)
    case c37a => exact V36.out
    case c37b => exact (HO.out.only_nil Q0.out).below B.out (Nat.le_refl _)
    case c37c => exact HOC.out
    case c37d => first | (simp [ref.two, ref.four, HOLen.out]; done) | (simp [ref.two, ref.four, HOLen.out]; omega) | omega
    case c37e => unfold maxLen; first | (simp [ref.two, ref.four, HOLen.out]; done) | (simp [ref.two, ref.four, HOLen.out]; omega) | omega
    case c37f => have := B.out.size; first | omega | (simp; omega) | (simp at this; simp; omega)
    intro v37 W37 hv hg hb
    have V37 := hid hv
    have B := hid (B.out.grown hg (by have := B.out.size; first | omega | (simp; omega) | (simp at this; simp; omega)) (fun k hk => ((V36.out).lt k hk).1))
    have OB := hid (OB.out.grown hg (own_neP6 OB.out V36.out))
    clear hv hg hb
    clear V36 k0 k1 k2 k3 k4 k5 k6 k7 k8 k9 k10
    have HBase : Hid (∀ j, [64 + (hh : Int) / 4, sv] ++ ref.two (((hh : Nat) : Int) + (dn : Int)) ++ ref.two pid ++ ref.two (off / 8) ++ [lf, pr, 0, 0] ++ ref.four fr ++ ref.four to ++ o ++ List.replicate j 0 = pre ++ List.replicate j 0) := hid (by
      intro j
      have m1 : (64 + (hh : Int) / 4) % 256 = 64 + (hh : Int) / 4 := by omega
      have m2 : sv % 256 = sv := by omega
      have m3 : lf % 256 = lf := by omega
      have m4 : pr % 256 = pr := by omega
      rw [HPre.out]
      simp [ref.two, ref.four, b2, b4, pbs, m1, m2, m3, m4])
    have VV : Hid (Own .u8 5 W37 w1.heap.size v37 (pre ++ List.replicate 0 0)) := hid (by have h := V37.out; rw [← HBase.out 0]; simpa using h)
    clear HBase V37
    obtain ⟨A0, c0, ev0, _, _, _, _⟩ := VV.out.slice
    rw [show List.length (pre ++ List.replicate 0 (0 : Int)) = 20 + on from by simp [HPL.out]] at ev0
    subst ev0
    generalize W37 = Wb at *
    go_wp2
    go_loopw [7] (fun v wr => ∃ (jj : Nat) (A : Option Addr) (c : Nat), 20 + on + jj ≤ hh ∧ v = .slice A (20 + on + jj) c ∧ Hid (Own .u8 5 wr w1.heap.size (.slice A (20 + on + jj) c) (pre ++ List.replicate jj 0)) ∧ Hid (Below w1.heap.size w1 wr)) (fun v _ => hh - (match v with | .slice _ n _ => n | _ => 0))
    case atStart => exact ⟨0, A0, c0, by omega, rfl, by simpa using VV, B⟩
    case round =>
      clear VV B OB
      obtain ⟨jj, A, c, hj, rfl, VV, B⟩ := hrel
      by_cases hlt : 20 + on + jj < hh
      · have hlt2 : ((20 + on + jj : Nat) : Int) < hh := by omega
        have VL : Hid (Own .u8 5 (wr.alloc (.cells #[.int .u8 0] 5)) w1.heap.size (.slice (some ⟨wr.heap.size, 0, none⟩) 1 1) [0]) := hid (Own.lit .u8 5 wr w1.heap.size [0] _ 1 rfl rfl B.out.size (by simp [maxLen]) (by intro z hz; simp at hz; apply hlp.u8wf; omega))
        have B := hid (B.out.alloc B.out.size (.cells #[.int .u8 0] 5)); have VV := hid (VV.out.alloc (.cells #[.int .u8 0] 5))
        have hpl : List.length (pre ++ List.replicate jj (0 : Int)) = 20 + on + jj := by simp [HPL.out]
        have HPP := hid hpl; clear hpl
        go_wp2_with (at_builtin; refine wpList_app _ rfl (.tmp 72) (.tmp 73) _ rfl hlp.elemB w1.heap.size _ (pre ++ List.replicate jj 0) rfl ?c60a (some ⟨wr.heap.size, 0, none⟩) 1 1 ([0]) rfl ?c60b ?c60c ?c60d ?c60e ?c60f ?_)
        case c60a => exact VV.out
        case c60b => exact VL.out.rd
        case c60c => simp
        case c60d => first | (rw [HPP.out]; done) | (rw [HPP.out]; omega) | omega
        case c60e => unfold maxLen; first | (rw [HPP.out]; done) | (rw [HPP.out]; omega) | omega
        case c60f => have := B.out.size; first | omega | (simp; omega) | (simp at this; simp; omega)
        intro v60 W60 hv hg hb
        have V60 := hid hv
        have B := hid (B.out.grown hg (by have := B.out.size; first | omega | (simp; omega) | (simp at this; simp; omega)) (fun k hk => ((VV.out).lt k hk).1))
        clear hv hg hb
        obtain ⟨A9, c9, ev9, _, _, _, _⟩ := V60.out.slice
        have e9 : v60 = .slice A9 (20 + on + (jj + 1)) c9 := by rw [ev9]; congr 1; simp [HPL.out] <;> omega
        subst e9
        clear ev9
        have V61 : Hid (Own .u8 5 W60 w1.heap.size (.slice A9 (20 + on + (jj + 1)) c9) (pre ++ List.replicate (jj + 1) 0)) := hid (by have h := V60.out; rw [List.replicate_succ']; first | exact h | (rw [← List.append_assoc]; exact h))
        clear V60 VL
        go_wp2
        go_roundw
        case rel => exact ⟨jj + 1, A9, c9, by omega, rfl, V61, B⟩
        case measure => show hh - (20 + on + (jj + 1)) < hh - (20 + on + jj); omega
      · obtain hjj : jj = hh - 20 - on := by omega
        have hlt2 : ¬ ((20 + on + jj : Nat) : Int) < hh := by omega
        have HH0 : Hid (pre ++ List.replicate jj 0 = hdr sv pid off lf pr false false fr to o dn 0) := hid (by rw [HHD.out, hjj])
        have hpl : (hdr sv pid off lf pr false false fr to o dn 0).length = 20 + on + jj := by rw [← HH0.out]; simp [HPL.out]
        rw [HH0.out] at VV
        clear hjj HH0
        obtain ⟨g, cap, e2⟩ := VV.out.some_form (by rw [hpl]; omega)
        rw [hpl] at e2
        injection e2 with e2 _ e3
        subst e2 e3
        have HSB : Hid (0 ≤ sm ∧ sm ≤ 65535) := hid (by
          rw [← HSU.out]
          have hw := VV.out.2
          have := oct.F_bd (oct.ws (hdr sv pid off lf pr false false fr to o dn 0)) (oct.ws_bd _ (fun z hz => u8Bd (hw z hz))).1
          unfold oct.sumF; omega)
        go_wp2_with fail
        refine (oct.sum2 _ (some ⟨g, 0, none⟩) (20 + on + jj) _ _ VV.out.rd (by omega)).mono ?_
        rintro x w70 ⟨rfl, m70, rfl⟩
        rw [HSU.out]
        have VV := hid (VV.out.drewN m70)
        have HQ1 := hid ((Q0.out.trans (Only.of_below (S := []) B.out)).drewN m70)
        obtain ⟨hs1, hs2⟩ := HSB.out
        have c2 := VV.out.cellD 10 (by omega)
        have f2 := VV.out.frozen 10
        have V4 := hid (VV.out.set 10 (sm / 256) (hlp.u8wf (by omega)))
        have c3 := V4.out.cellD 11 (by omega)
        have f3 := V4.out.frozen 11
        have V5 := hid (V4.out.set 11 (sm % 256) (hlp.u8wf (by omega)))
        have hlow : w.heap.size ≤ g := by have h1 := VV.out.base_le.1; omega
        have HQ2 := hid ((HQ1.out.setCell (p := ⟨g, 10, none⟩) (Or.inr hlow) (.int .u8 (sm / 256))).setCell (p := ⟨g, 11, none⟩) (Or.inr hlow) (.int .u8 (sm % 256)))
        have hi10 : (10 : Int) < ((20 + on + jj : Nat) : Int) := by omega
        have hi11 : (11 : Int) < ((20 + on + jj : Nat) : Int) := by omega
        go_wp2
        go_ret
        exact ⟨_, rfl, by rw [HSET.out]; exact V5.out.mono_base (by omega), HQ2.out⟩
  · skip
    go_enter Try.func47, Try.ntmps47
    go_wp2_with fail
    refine (head2 _ sv pid off lf pr false true fr to oA on oc dA dn dc (by omega)).mono ?_
    rintro x w1 ⟨rfl, o1⟩
    generalize hhe : hl on = hh at *
    have HHE := hid hhe; clear hhe
    have OB := hid (OB.out.only o1 (by simp)); have Q0 := hid (Q0.out.trans o1); clear o1 k0 k1 k2 k3 k4 k5 k6 k7 k8 k9 k10
    have k0 := OB.out.cell 0; have k1 := OB.out.cell 1; have k2 := OB.out.cell 2; have k3 := OB.out.cell 3; have k4 := OB.out.cell 4; have k5 := OB.out.cell 5; have k6 := OB.out.cell 6; have k7 := OB.out.cell 7; have k8 := OB.out.cell 8; have k9 := OB.out.cell 9; have k10 := OB.out.cell 10
    have hgs : w.heap.size < w1.heap.size := OB.out.lt
    have VL : Hid (Own .u8 5 (w1.alloc (.cells #[.int .u8 (64 + (hh : Int) / 4), .int .u8 sv] 5)) w1.heap.size (.slice (some ⟨w1.heap.size, 0, none⟩) 2 2) [(64 + (hh : Int) / 4), sv]) := hid (Own.lit .u8 5 w1 w1.heap.size [(64 + (hh : Int) / 4), sv] _ 2 rfl rfl (Nat.le_refl _) (by simp [maxLen]) (by intro z hz; simp at hz; apply hlp.u8wf; omega))
    have V0 := VL; clear VL
    have B : Hid (Below w1.heap.size w1 (w1.alloc (.cells #[.int .u8 (64 + (hh : Int) / 4), .int .u8 sv] 5))) := hid ((Below.refl _ _).alloc (Nat.le_refl _) _)
    have OB := hid (OB.out.alloc (.cells #[.int .u8 (64 + (hh : Int) / 4), .int .u8 sv] 5))
    go_wp2_with fail
    refine (ref.two1 _ (((hh : Nat) : Int) + (dn : Int))).mono ?_
    rintro x w11 ⟨g11, rfl, h11, o11⟩
    have V0 := hid (V0.out.only_nil o11); have P := hid h11.rd; have OB := hid (OB.out.only o11 (by simp)); have B := hid (B.out.trans (o11.below_nil.mono B.out.size)); clear h11 o11 k0 k1 k2 k3 k4 k5 k6 k7 k8 k9 k10
    have k0 := OB.out.cell 0; have k1 := OB.out.cell 1; have k2 := OB.out.cell 2; have k3 := OB.out.cell 3; have k4 := OB.out.cell 4; have k5 := OB.out.cell 5; have k6 := OB.out.cell 6; have k7 := OB.out.cell 7; have k8 := OB.out.cell 8; have k9 := OB.out.cell 9; have k10 := OB.out.cell 10
    go_wp2_with (at_builtin; refine wpList_app _ rfl (.tmp 30) (.tmp 34) _ rfl hlp.elemB w1.heap.size _ ([64 + (hh : Int) / 4, sv]) rfl ?c31a (some ⟨g11, 0, none⟩) 2 2 (ref.two (((hh : Nat) : Int) + (dn : Int))) rfl ?c31b ?c31c ?c31d ?c31e ?c31f ?_)
    case c31a => exact V0.out
    case c31b => exact P.out
    case c31c => simp
    case c31d => first | (simp [ref.two, ref.four]; done) | (simp [ref.two, ref.four]; omega) | omega
    case c31e => unfold maxLen; first | (simp [ref.two, ref.four]; done) | (simp [ref.two, ref.four]; omega) | omega
    case c31f => have := B.out.size; first | omega | (simp; omega) | (simp at this; simp; omega)
    intro v31 W31 hv hg hb
    have V31 := hid hv
    have B := hid (B.out.grown hg (by have := B.out.size; first | omega | (simp; omega) | (simp at this; simp; omega)) (fun k hk => ((V0.out).lt k hk).1))
    have OB := hid (OB.out.grown hg (own_neP6 OB.out V0.out))
    clear hv hg hb
    clear P V0 k0 k1 k2 k3 k4 k5 k6 k7 k8 k9 k10
    have k0 := OB.out.cell 0; have k1 := OB.out.cell 1; have k2 := OB.out.cell 2; have k3 := OB.out.cell 3; have k4 := OB.out.cell 4; have k5 := OB.out.cell 5; have k6 := OB.out.cell 6; have k7 := OB.out.cell 7; have k8 := OB.out.cell 8; have k9 := OB.out.cell 9; have k10 := OB.out.cell 10
    go_wp2_with fail
    refine (ref.two1 _ pid).mono ?_
    rintro x w12 ⟨g12, rfl, h12, o12⟩
    have V31 := hid (V31.out.only_nil o12); have P := hid h12.rd; have OB := hid (OB.out.only o12 (by simp)); have B := hid (B.out.trans (o12.below_nil.mono B.out.size)); clear h12 o12 k0 k1 k2 k3 k4 k5 k6 k7 k8 k9 k10
    have k0 := OB.out.cell 0; have k1 := OB.out.cell 1; have k2 := OB.out.cell 2; have k3 := OB.out.cell 3; have k4 := OB.out.cell 4; have k5 := OB.out.cell 5; have k6 := OB.out.cell 6; have k7 := OB.out.cell 7; have k8 := OB.out.cell 8; have k9 := OB.out.cell 9; have k10 := OB.out.cell 10
    go_wp2_with (at_builtin; refine wpList_app _ rfl (.tmp 36) (.tmp 39) _ rfl hlp.elemB w1.heap.size _ ([64 + (hh : Int) / 4, sv] ++ ref.two (((hh : Nat) : Int) + (dn : Int))) rfl ?c32a (some ⟨g12, 0, none⟩) 2 2 (ref.two pid) rfl ?c32b ?c32c ?c32d ?c32e ?c32f ?_)
    case c32a => exact V31.out
    case c32b => exact P.out
    case c32c => simp
    case c32d => first | (simp [ref.two, ref.four]; done) | (simp [ref.two, ref.four]; omega) | omega
    case c32e => unfold maxLen; first | (simp [ref.two, ref.four]; done) | (simp [ref.two, ref.four]; omega) | omega
    case c32f => have := B.out.size; first | omega | (simp; omega) | (simp at this; simp; omega)
    intro v32 W32 hv hg hb
    have V32 := hid hv
    have B := hid (B.out.grown hg (by have := B.out.size; first | omega | (simp; omega) | (simp at this; simp; omega)) (fun k hk => ((V31.out).lt k hk).1))
    have OB := hid (OB.out.grown hg (own_neP6 OB.out V31.out))
    clear hv hg hb
    clear P V31 k0 k1 k2 k3 k4 k5 k6 k7 k8 k9 k10
    have k0 := OB.out.cell 0; have k1 := OB.out.cell 1; have k2 := OB.out.cell 2; have k3 := OB.out.cell 3; have k4 := OB.out.cell 4; have k5 := OB.out.cell 5; have k6 := OB.out.cell 6; have k7 := OB.out.cell 7; have k8 := OB.out.cell 8; have k9 := OB.out.cell 9; have k10 := OB.out.cell 10
    go_wp2_with fail
    refine (ref.two1 _ (off / 8 + 8192)).mono ?_
    rintro x w13 ⟨g13, rfl, h13, o13⟩
    have V32 := hid (V32.out.only_nil o13); have P := hid h13.rd; have OB := hid (OB.out.only o13 (by simp)); have B := hid (B.out.trans (o13.below_nil.mono B.out.size)); clear h13 o13 k0 k1 k2 k3 k4 k5 k6 k7 k8 k9 k10
    have k0 := OB.out.cell 0; have k1 := OB.out.cell 1; have k2 := OB.out.cell 2; have k3 := OB.out.cell 3; have k4 := OB.out.cell 4; have k5 := OB.out.cell 5; have k6 := OB.out.cell 6; have k7 := OB.out.cell 7; have k8 := OB.out.cell 8; have k9 := OB.out.cell 9; have k10 := OB.out.cell 10
    go_wp2_with (at_builtin; refine wpList_app _ rfl (.tmp 41) (.tmp 43) _ rfl hlp.elemB w1.heap.size _ ([64 + (hh : Int) / 4, sv] ++ ref.two (((hh : Nat) : Int) + (dn : Int)) ++ ref.two pid) rfl ?c33a (some ⟨g13, 0, none⟩) 2 2 (ref.two (off / 8 + 8192)) rfl ?c33b ?c33c ?c33d ?c33e ?c33f ?_)
    case c33a => exact V32.out
    case c33b => exact P.out
    case c33c => simp
    case c33d => first | (simp [ref.two, ref.four]; done) | (simp [ref.two, ref.four]; omega) | omega
    case c33e => unfold maxLen; first | (simp [ref.two, ref.four]; done) | (simp [ref.two, ref.four]; omega) | omega
    case c33f => have := B.out.size; first | omega | (simp; omega) | (simp at this; simp; omega)
    intro v33 W33 hv hg hb
    have V33 := hid hv
    have B := hid (B.out.grown hg (by have := B.out.size; first | omega | (simp; omega) | (simp at this; simp; omega)) (fun k hk => ((V32.out).lt k hk).1))
    have OB := hid (OB.out.grown hg (own_neP6 OB.out V32.out))
    clear hv hg hb
    clear P V32 k0 k1 k2 k3 k4 k5 k6 k7 k8 k9 k10
    have k0 := OB.out.cell 0; have k1 := OB.out.cell 1; have k2 := OB.out.cell 2; have k3 := OB.out.cell 3; have k4 := OB.out.cell 4; have k5 := OB.out.cell 5; have k6 := OB.out.cell 6; have k7 := OB.out.cell 7; have k8 := OB.out.cell 8; have k9 := OB.out.cell 9; have k10 := OB.out.cell 10
    have VL : Hid (Own .u8 5 (W33.alloc (.cells #[.int .u8 lf, .int .u8 pr, .int .u8 0, .int .u8 0] 5)) w1.heap.size (.slice (some ⟨W33.heap.size, 0, none⟩) 4 4) [lf, pr, 0, 0]) := hid (Own.lit .u8 5 W33 w1.heap.size [lf, pr, 0, 0] _ 4 rfl rfl B.out.size (by simp [maxLen]) (by intro z hz; simp at hz; apply hlp.u8wf; omega))
    have B := hid (B.out.alloc B.out.size (.cells #[.int .u8 lf, .int .u8 pr, .int .u8 0, .int .u8 0] 5)); have V33 := hid (V33.out.alloc (.cells #[.int .u8 lf, .int .u8 pr, .int .u8 0, .int .u8 0] 5)); have OB := hid (OB.out.alloc (.cells #[.int .u8 lf, .int .u8 pr, .int .u8 0, .int .u8 0] 5))
    go_wp2_with (at_builtin; refine wpList_app _ rfl (.tmp 45) (.tmp 52) _ rfl hlp.elemB w1.heap.size _ ([64 + (hh : Int) / 4, sv] ++ ref.two (((hh : Nat) : Int) + (dn : Int)) ++ ref.two pid ++ ref.two (off / 8 + 8192)) rfl ?c34a (some ⟨W33.heap.size, 0, none⟩) 4 4 ([lf, pr, 0, 0]) rfl ?c34b ?c34c ?c34d ?c34e ?c34f ?_)
    case c34a => exact V33.out
    case c34b => exact VL.out.rd
    case c34c => simp
    case c34d => first | (simp [ref.two, ref.four]; done) | (simp [ref.two, ref.four]; omega) | omega
    case c34e => unfold maxLen; first | (simp [ref.two, ref.four]; done) | (simp [ref.two, ref.four]; omega) | omega
    case c34f => have := B.out.size; first | omega | (simp; omega) | (simp at this; simp; omega)
    intro v34 W34 hv hg hb
    have V34 := hid hv
    have B := hid (B.out.grown hg (by have := B.out.size; first | omega | (simp; omega) | (simp at this; simp; omega)) (fun k hk => ((V33.out).lt k hk).1))
    have OB := hid (OB.out.grown hg (own_neP6 OB.out V33.out))
    clear hv hg hb
    clear VL V33 k0 k1 k2 k3 k4 k5 k6 k7 k8 k9 k10
    have k0 := OB.out.cell 0; have k1 := OB.out.cell 1; have k2 := OB.out.cell 2; have k3 := OB.out.cell 3; have k4 := OB.out.cell 4; have k5 := OB.out.cell 5; have k6 := OB.out.cell 6; have k7 := OB.out.cell 7; have k8 := OB.out.cell 8; have k9 := OB.out.cell 9; have k10 := OB.out.cell 10
    go_wp2_with fail
    refine (ref.four1 _ fr).mono ?_
    rintro x w15 ⟨g15, rfl, h15, o15⟩
    have V34 := hid (V34.out.only_nil o15); have P := hid h15.rd; have OB := hid (OB.out.only o15 (by simp)); have B := hid (B.out.trans (o15.below_nil.mono B.out.size)); clear h15 o15 k0 k1 k2 k3 k4 k5 k6 k7 k8 k9 k10
    have k0 := OB.out.cell 0; have k1 := OB.out.cell 1; have k2 := OB.out.cell 2; have k3 := OB.out.cell 3; have k4 := OB.out.cell 4; have k5 := OB.out.cell 5; have k6 := OB.out.cell 6; have k7 := OB.out.cell 7; have k8 := OB.out.cell 8; have k9 := OB.out.cell 9; have k10 := OB.out.cell 10
    go_wp2_with (at_builtin; refine wpList_app _ rfl (.tmp 54) (.tmp 57) _ rfl hlp.elemB w1.heap.size _ ([64 + (hh : Int) / 4, sv] ++ ref.two (((hh : Nat) : Int) + (dn : Int)) ++ ref.two pid ++ ref.two (off / 8 + 8192) ++ [lf, pr, 0, 0]) rfl ?c35a (some ⟨g15, 0, none⟩) 4 4 (ref.four fr) rfl ?c35b ?c35c ?c35d ?c35e ?c35f ?_)
    case c35a => exact V34.out
    case c35b => exact P.out
    case c35c => simp
    case c35d => first | (simp [ref.two, ref.four]; done) | (simp [ref.two, ref.four]; omega) | omega
    case c35e => unfold maxLen; first | (simp [ref.two, ref.four]; done) | (simp [ref.two, ref.four]; omega) | omega
    case c35f => have := B.out.size; first | omega | (simp; omega) | (simp at this; simp; omega)
    intro v35 W35 hv hg hb
    have V35 := hid hv
    have B := hid (B.out.grown hg (by have := B.out.size; first | omega | (simp; omega) | (simp at this; simp; omega)) (fun k hk => ((V34.out).lt k hk).1))
    have OB := hid (OB.out.grown hg (own_neP6 OB.out V34.out))
    clear hv hg hb
    clear P V34 k0 k1 k2 k3 k4 k5 k6 k7 k8 k9 k10
    have k0 := OB.out.cell 0; have k1 := OB.out.cell 1; have k2 := OB.out.cell 2; have k3 := OB.out.cell 3; have k4 := OB.out.cell 4; have k5 := OB.out.cell 5; have k6 := OB.out.cell 6; have k7 := OB.out.cell 7; have k8 := OB.out.cell 8; have k9 := OB.out.cell 9; have k10 := OB.out.cell 10
    go_wp2_with fail
    refine (ref.four1 _ to).mono ?_
    rintro x w16 ⟨g16, rfl, h16, o16⟩
    have V35 := hid (V35.out.only_nil o16); have P := hid h16.rd; have OB := hid (OB.out.only o16 (by simp)); have B := hid (B.out.trans (o16.below_nil.mono B.out.size)); clear h16 o16 k0 k1 k2 k3 k4 k5 k6 k7 k8 k9 k10
    have k0 := OB.out.cell 0; have k1 := OB.out.cell 1; have k2 := OB.out.cell 2; have k3 := OB.out.cell 3; have k4 := OB.out.cell 4; have k5 := OB.out.cell 5; have k6 := OB.out.cell 6; have k7 := OB.out.cell 7; have k8 := OB.out.cell 8; have k9 := OB.out.cell 9; have k10 := OB.out.cell 10
    go_wp2_with (at_builtin; refine wpList_app _ rfl (.tmp 59) (.tmp 62) _ rfl hlp.elemB w1.heap.size _ ([64 + (hh : Int) / 4, sv] ++ ref.two (((hh : Nat) : Int) + (dn : Int)) ++ ref.two pid ++ ref.two (off / 8 + 8192) ++ [lf, pr, 0, 0] ++ ref.four fr) rfl ?c36a (some ⟨g16, 0, none⟩) 4 4 (ref.four to) rfl ?c36b ?c36c ?c36d ?c36e ?c36f ?_)
    case c36a => exact V35.out
    case c36b => exact P.out
    case c36c => simp
    case c36d => first | (simp [ref.two, ref.four]; done) | (simp [ref.two, ref.four]; omega) | omega
    case c36e => unfold maxLen; first | (simp [ref.two, ref.four]; done) | (simp [ref.two, ref.four]; omega) | omega
    case c36f => have := B.out.size; first | omega | (simp; omega) | (simp at this; simp; omega)
    intro v36 W36 hv hg hb
    have V36 := hid hv
    have B := hid (B.out.grown hg (by have := B.out.size; first | omega | (simp; omega) | (simp at this; simp; omega)) (fun k hk => ((V35.out).lt k hk).1))
    have OB := hid (OB.out.grown hg (own_neP6 OB.out V35.out))
    clear hv hg hb
    clear P V35 k0 k1 k2 k3 k4 k5 k6 k7 k8 k9 k10
    have k0 := OB.out.cell 0; have k1 := OB.out.cell 1; have k2 := OB.out.cell 2; have k3 := OB.out.cell 3; have k4 := OB.out.cell 4; have k5 := OB.out.cell 5; have k6 := OB.out.cell 6; have k7 := OB.out.cell 7; have k8 := OB.out.cell 8; have k9 := OB.out.cell 9; have k10 := OB.out.cell 10
    go_wp2_with (at_builtin; refine wpList_app _ rfl (.tmp 64) (.tmp 66) _ rfl hlp.elemB w1.heap.size _ ([64 + (hh : Int) / 4, sv] ++ ref.two (((hh : Nat) : Int) + (dn : Int)) ++ ref.two pid ++ ref.two (off / 8 + 8192) ++ [lf, pr, 0, 0] ++ ref.four fr ++ ref.four to) rfl ?c37a oA on oc (o) rfl ?c37b ?c37c ?c37d ?c37e ?c37f ?_)
    case c37a => exact V36.out
    case c37b => exact (HO.out.only_nil Q0.out).below B.out (Nat.le_refl _)
    case c37c => exact HOC.out
    case c37d => first | (simp [ref.two, ref.four, HOLen.out]; done) | (simp [ref.two, ref.four, HOLen.out]; omega) | omega
    case c37e => unfold maxLen; first | (simp [ref.two, ref.four, HOLen.out]; done) | (simp [ref.two, ref.four, HOLen.out]; omega) | omega
    case c37f => have := B.out.size; first | omega | (simp; omega) | (simp at this; simp; omega)
    intro v37 W37 hv hg hb
    have V37 := hid hv
    have B := hid (B.out.grown hg (by have := B.out.size; first | omega | (simp; omega) | (simp at this; simp; omega)) (fun k hk => ((V36.out).lt k hk).1))
    have OB := hid (OB.out.grown hg (own_neP6 OB.out V36.out))
    clear hv hg hb
    clear V36 k0 k1 k2 k3 k4 k5 k6 k7 k8 k9 k10
    have HBase : Hid (∀ j, [64 + (hh : Int) / 4, sv] ++ ref.two (((hh : Nat) : Int) + (dn : Int)) ++ ref.two pid ++ ref.two (off / 8 + 8192) ++ [lf, pr, 0, 0] ++ ref.four fr ++ ref.four to ++ o ++ List.replicate j 0 = pre ++ List.replicate j 0) := hid (by
      intro j
      have m1 : (64 + (hh : Int) / 4) % 256 = 64 + (hh : Int) / 4 := by omega
      have m2 : sv % 256 = sv := by omega
      have m3 : lf % 256 = lf := by omega
      have m4 : pr % 256 = pr := by omega
      rw [HPre.out]
      simp [ref.two, ref.four, b2, b4, pbs, m1, m2, m3, m4])
    have VV : Hid (Own .u8 5 W37 w1.heap.size v37 (pre ++ List.replicate 0 0)) := hid (by have h := V37.out; rw [← HBase.out 0]; simpa using h)
    clear HBase V37
    obtain ⟨A0, c0, ev0, _, _, _, _⟩ := VV.out.slice
    rw [show List.length (pre ++ List.replicate 0 (0 : Int)) = 20 + on from by simp [HPL.out]] at ev0
    subst ev0
    generalize W37 = Wb at *
    go_wp2
    go_loopw [7] (fun v wr => ∃ (jj : Nat) (A : Option Addr) (c : Nat), 20 + on + jj ≤ hh ∧ v = .slice A (20 + on + jj) c ∧ Hid (Own .u8 5 wr w1.heap.size (.slice A (20 + on + jj) c) (pre ++ List.replicate jj 0)) ∧ Hid (Below w1.heap.size w1 wr)) (fun v _ => hh - (match v with | .slice _ n _ => n | _ => 0))
    case atStart => exact ⟨0, A0, c0, by omega, rfl, by simpa using VV, B⟩
    case round =>
      clear VV B OB
      obtain ⟨jj, A, c, hj, rfl, VV, B⟩ := hrel
      by_cases hlt : 20 + on + jj < hh
      · have hlt2 : ((20 + on + jj : Nat) : Int) < hh := by omega
        have VL : Hid (Own .u8 5 (wr.alloc (.cells #[.int .u8 0] 5)) w1.heap.size (.slice (some ⟨wr.heap.size, 0, none⟩) 1 1) [0]) := hid (Own.lit .u8 5 wr w1.heap.size [0] _ 1 rfl rfl B.out.size (by simp [maxLen]) (by intro z hz; simp at hz; apply hlp.u8wf; omega))
        have B := hid (B.out.alloc B.out.size (.cells #[.int .u8 0] 5)); have VV := hid (VV.out.alloc (.cells #[.int .u8 0] 5))
        have hpl : List.length (pre ++ List.replicate jj (0 : Int)) = 20 + on + jj := by simp [HPL.out]
        have HPP := hid hpl; clear hpl
        go_wp2_with (at_builtin; refine wpList_app _ rfl (.tmp 72) (.tmp 73) _ rfl hlp.elemB w1.heap.size _ (pre ++ List.replicate jj 0) rfl ?c60a (some ⟨wr.heap.size, 0, none⟩) 1 1 ([0]) rfl ?c60b ?c60c ?c60d ?c60e ?c60f ?_)
        case c60a => exact VV.out
        case c60b => exact VL.out.rd
        case c60c => simp
        case c60d => first | (rw [HPP.out]; done) | (rw [HPP.out]; omega) | omega
        case c60e => unfold maxLen; first | (rw [HPP.out]; done) | (rw [HPP.out]; omega) | omega
        case c60f => have := B.out.size; first | omega | (simp; omega) | (simp at this; simp; omega)
        intro v60 W60 hv hg hb
        have V60 := hid hv
        have B := hid (B.out.grown hg (by have := B.out.size; first | omega | (simp; omega) | (simp at this; simp; omega)) (fun k hk => ((VV.out).lt k hk).1))
        clear hv hg hb
        obtain ⟨A9, c9, ev9, _, _, _, _⟩ := V60.out.slice
        have e9 : v60 = .slice A9 (20 + on + (jj + 1)) c9 := by rw [ev9]; congr 1; simp [HPL.out] <;> omega
        subst e9
        clear ev9
        have V61 : Hid (Own .u8 5 W60 w1.heap.size (.slice A9 (20 + on + (jj + 1)) c9) (pre ++ List.replicate (jj + 1) 0)) := hid (by have h := V60.out; rw [List.replicate_succ']; first | exact h | (rw [← List.append_assoc]; exact h))
        clear V60 VL
        go_wp2
        go_roundw
        case rel => exact ⟨jj + 1, A9, c9, by omega, rfl, V61, B⟩
        case measure => show hh - (20 + on + (jj + 1)) < hh - (20 + on + jj); omega
      · obtain hjj : jj = hh - 20 - on := by omega
        have hlt2 : ¬ ((20 + on + jj : Nat) : Int) < hh := by omega
        have HH0 : Hid (pre ++ List.replicate jj 0 = hdr sv pid off lf pr false true fr to o dn 0) := hid (by rw [HHD.out, hjj])
        have hpl : (hdr sv pid off lf pr false true fr to o dn 0).length = 20 + on + jj := by rw [← HH0.out]; simp [HPL.out]
        rw [HH0.out] at VV
        clear hjj HH0
        obtain ⟨g, cap, e2⟩ := VV.out.some_form (by rw [hpl]; omega)
        rw [hpl] at e2
        injection e2 with e2 _ e3
        subst e2 e3
        have HSB : Hid (0 ≤ sm ∧ sm ≤ 65535) := hid (by
          rw [← HSU.out]
          have hw := VV.out.2
          have := oct.F_bd (oct.ws (hdr sv pid off lf pr false true fr to o dn 0)) (oct.ws_bd _ (fun z hz => u8Bd (hw z hz))).1
          unfold oct.sumF; omega)
        go_wp2_with fail
        refine (oct.sum2 _ (some ⟨g, 0, none⟩) (20 + on + jj) _ _ VV.out.rd (by omega)).mono ?_
        rintro x w70 ⟨rfl, m70, rfl⟩
        rw [HSU.out]
        have VV := hid (VV.out.drewN m70)
        have HQ1 := hid ((Q0.out.trans (Only.of_below (S := []) B.out)).drewN m70)
        obtain ⟨hs1, hs2⟩ := HSB.out
        have c2 := VV.out.cellD 10 (by omega)
        have f2 := VV.out.frozen 10
        have V4 := hid (VV.out.set 10 (sm / 256) (hlp.u8wf (by omega)))
        have c3 := V4.out.cellD 11 (by omega)
        have f3 := V4.out.frozen 11
        have V5 := hid (V4.out.set 11 (sm % 256) (hlp.u8wf (by omega)))
        have hlow : w.heap.size ≤ g := by have h1 := VV.out.base_le.1; omega
        have HQ2 := hid ((HQ1.out.setCell (p := ⟨g, 10, none⟩) (Or.inr hlow) (.int .u8 (sm / 256))).setCell (p := ⟨g, 11, none⟩) (Or.inr hlow) (.int .u8 (sm % 256)))
        have hi10 : (10 : Int) < ((20 + on + jj : Nat) : Int) := by omega
        have hi11 : (11 : Int) < ((20 + on + jj : Nat) : Int) := by omega
        go_wp2
        go_ret
        exact ⟨_, rfl, by rw [HSET.out]; exact V5.out.mono_base (by omega), HQ2.out⟩
  · skip
    go_enter Try.func47, Try.ntmps47
    go_wp2_with fail
    refine (head2 _ sv pid off lf pr true false fr to oA on oc dA dn dc (by omega)).mono ?_
    rintro x w1 ⟨rfl, o1⟩
    generalize hhe : hl on = hh at *
    have HHE := hid hhe; clear hhe
    have OB := hid (OB.out.only o1 (by simp)); have Q0 := hid (Q0.out.trans o1); clear o1 k0 k1 k2 k3 k4 k5 k6 k7 k8 k9 k10
    have k0 := OB.out.cell 0; have k1 := OB.out.cell 1; have k2 := OB.out.cell 2; have k3 := OB.out.cell 3; have k4 := OB.out.cell 4; have k5 := OB.out.cell 5; have k6 := OB.out.cell 6; have k7 := OB.out.cell 7; have k8 := OB.out.cell 8; have k9 := OB.out.cell 9; have k10 := OB.out.cell 10
    have hgs : w.heap.size < w1.heap.size := OB.out.lt
    have VL : Hid (Own .u8 5 (w1.alloc (.cells #[.int .u8 (64 + (hh : Int) / 4), .int .u8 sv] 5)) w1.heap.size (.slice (some ⟨w1.heap.size, 0, none⟩) 2 2) [(64 + (hh : Int) / 4), sv]) := hid (Own.lit .u8 5 w1 w1.heap.size [(64 + (hh : Int) / 4), sv] _ 2 rfl rfl (Nat.le_refl _) (by simp [maxLen]) (by intro z hz; simp at hz; apply hlp.u8wf; omega))
    have V0 := VL; clear VL
    have B : Hid (Below w1.heap.size w1 (w1.alloc (.cells #[.int .u8 (64 + (hh : Int) / 4), .int .u8 sv] 5))) := hid ((Below.refl _ _).alloc (Nat.le_refl _) _)
    have OB := hid (OB.out.alloc (.cells #[.int .u8 (64 + (hh : Int) / 4), .int .u8 sv] 5))
    go_wp2_with fail
    refine (ref.two1 _ (((hh : Nat) : Int) + (dn : Int))).mono ?_
    rintro x w11 ⟨g11, rfl, h11, o11⟩
    have V0 := hid (V0.out.only_nil o11); have P := hid h11.rd; have OB := hid (OB.out.only o11 (by simp)); have B := hid (B.out.trans (o11.below_nil.mono B.out.size)); clear h11 o11 k0 k1 k2 k3 k4 k5 k6 k7 k8 k9 k10
    have k0 := OB.out.cell 0; have k1 := OB.out.cell 1; have k2 := OB.out.cell 2; have k3 := OB.out.cell 3; have k4 := OB.out.cell 4; have k5 := OB.out.cell 5; have k6 := OB.out.cell 6; have k7 := OB.out.cell 7; have k8 := OB.out.cell 8; have k9 := OB.out.cell 9; have k10 := OB.out.cell 10
    go_wp2_with (at_builtin; refine wpList_app _ rfl (.tmp 30) (.tmp 34) _ rfl hlp.elemB w1.heap.size _ ([64 + (hh : Int) / 4, sv]) rfl ?c31a (some ⟨g11, 0, none⟩) 2 2 (ref.two (((hh : Nat) : Int) + (dn : Int))) rfl ?c31b ?c31c ?c31d ?c31e ?c31f ?_)
    case c31a => exact V0.out
    case c31b => exact P.out
    case c31c => simp
    case c31d => first | (simp [ref.two, ref.four]; done) | (simp [ref.two, ref.four]; omega) | omega
    case c31e => unfold maxLen; first | (simp [ref.two, ref.four]; done) | (simp [ref.two, ref.four]; omega) | omega
    case c31f => have := B.out.size; first | omega | (simp; omega) | (simp at this; simp; omega)
    intro v31 W31 hv hg hb
    have V31 := hid hv
    have B := hid (B.out.grown hg (by have := B.out.size; first | omega | (simp; omega) | (simp at this; simp; omega)) (fun k hk => ((V0.out).lt k hk).1))
    have OB := hid (OB.out.grown hg (own_neP6 OB.out V0.out))
    clear hv hg hb
    clear P V0 k0 k1 k2 k3 k4 k5 k6 k7 k8 k9 k10
    have k0 := OB.out.cell 0; have k1 := OB.out.cell 1; have k2 := OB.out.cell 2; have k3 := OB.out.cell 3; have k4 := OB.out.cell 4; have k5 := OB.out.cell 5; have k6 := OB.out.cell 6; have k7 := OB.out.cell 7; have k8 := OB.out.cell 8; have k9 := OB.out.cell 9; have k10 := OB.out.cell 10
    go_wp2_with fail
    refine (ref.two1 _ pid).mono ?_
    rintro x w12 ⟨g12, rfl, h12, o12⟩
    have V31 := hid (V31.out.only_nil o12); have P := hid h12.rd; have OB := hid (OB.out.only o12 (by simp)); have B := hid (B.out.trans (o12.below_nil.mono B.out.size)); clear h12 o12 k0 k1 k2 k3 k4 k5 k6 k7 k8 k9 k10
    have k0 := OB.out.cell 0; have k1 := OB.out.cell 1; have k2 := OB.out.cell 2; have k3 := OB.out.cell 3; have k4 := OB.out.cell 4; have k5 := OB.out.cell 5; have k6 := OB.out.cell 6; have k7 := OB.out.cell 7; have k8 := OB.out.cell 8; have k9 := OB.out.cell 9; have k10 := OB.out.cell 10
    go_wp2_with (at_builtin; refine wpList_app _ rfl (.tmp 36) (.tmp 39) _ rfl hlp.elemB w1.heap.size _ ([64 + (hh : Int) / 4, sv] ++ ref.two (((hh : Nat) : Int) + (dn : Int))) rfl ?c32a (some ⟨g12, 0, none⟩) 2 2 (ref.two pid) rfl ?c32b ?c32c ?c32d ?c32e ?c32f ?_)
    case c32a => exact V31.out
    case c32b => exact P.out
    case c32c => simp
    case c32d => first | (simp [ref.two, ref.four]; done) | (simp [ref.two, ref.four]; omega) | omega
    case c32e => unfold maxLen; first | (simp [ref.two, ref.four]; done) | (simp [ref.two, ref.four]; omega) | omega
    case c32f => have := B.out.size; first | omega | (simp; omega) | (simp at this; simp; omega)
    intro v32 W32 hv hg hb
    have V32 := hid hv
    have B := hid (B.out.grown hg (by have := B.out.size; first | omega | (simp; omega) | (simp at this; simp; omega)) (fun k hk => ((V31.out).lt k hk).1))
    have OB := hid (OB.out.grown hg (own_neP6 OB.out V31.out))
    clear hv hg hb
    clear P V31 k0 k1 k2 k3 k4 k5 k6 k7 k8 k9 k10
    have k0 := OB.out.cell 0; have k1 := OB.out.cell 1; have k2 := OB.out.cell 2; have k3 := OB.out.cell 3; have k4 := OB.out.cell 4; have k5 := OB.out.cell 5; have k6 := OB.out.cell 6; have k7 := OB.out.cell 7; have k8 := OB.out.cell 8; have k9 := OB.out.cell 9; have k10 := OB.out.cell 10
    go_wp2_with fail
    refine (ref.two1 _ (off / 8 + 16384)).mono ?_
    rintro x w13 ⟨g13, rfl, h13, o13⟩
    have V32 := hid (V32.out.only_nil o13); have P := hid h13.rd; have OB := hid (OB.out.only o13 (by simp)); have B := hid (B.out.trans (o13.below_nil.mono B.out.size)); clear h13 o13 k0 k1 k2 k3 k4 k5 k6 k7 k8 k9 k10
    have k0 := OB.out.cell 0; have k1 := OB.out.cell 1; have k2 := OB.out.cell 2; have k3 := OB.out.cell 3; have k4 := OB.out.cell 4; have k5 := OB.out.cell 5; have k6 := OB.out.cell 6; have k7 := OB.out.cell 7; have k8 := OB.out.cell 8; have k9 := OB.out.cell 9; have k10 := OB.out.cell 10
    go_wp2_with (at_builtin; refine wpList_app _ rfl (.tmp 41) (.tmp 43) _ rfl hlp.elemB w1.heap.size _ ([64 + (hh : Int) / 4, sv] ++ ref.two (((hh : Nat) : Int) + (dn : Int)) ++ ref.two pid) rfl ?c33a (some ⟨g13, 0, none⟩) 2 2 (ref.two (off / 8 + 16384)) rfl ?c33b ?c33c ?c33d ?c33e ?c33f ?_)
    case c33a => exact V32.out
    case c33b => exact P.out
    case c33c => simp
    case c33d => first | (simp [ref.two, ref.four]; done) | (simp [ref.two, ref.four]; omega) | omega
    case c33e => unfold maxLen; first | (simp [ref.two, ref.four]; done) | (simp [ref.two, ref.four]; omega) | omega
    case c33f => have := B.out.size; first | omega | (simp; omega) | (simp at this; simp; omega)
    intro v33 W33 hv hg hb
    have V33 := hid hv
    have B := hid (B.out.grown hg (by have := B.out.size; first | omega | (simp; omega) | (simp at this; simp; omega)) (fun k hk => ((V32.out).lt k hk).1))
    have OB := hid (OB.out.grown hg (own_neP6 OB.out V32.out))
    clear hv hg hb
    clear P V32 k0 k1 k2 k3 k4 k5 k6 k7 k8 k9 k10
    have k0 := OB.out.cell 0; have k1 := OB.out.cell 1; have k2 := OB.out.cell 2; have k3 := OB.out.cell 3; have k4 := OB.out.cell 4; have k5 := OB.out.cell 5; have k6 := OB.out.cell 6; have k7 := OB.out.cell 7; have k8 := OB.out.cell 8; have k9 := OB.out.cell 9; have k10 := OB.out.cell 10
    have VL : Hid (Own .u8 5 (W33.alloc (.cells #[.int .u8 lf, .int .u8 pr, .int .u8 0, .int .u8 0] 5)) w1.heap.size (.slice (some ⟨W33.heap.size, 0, none⟩) 4 4) [lf, pr, 0, 0]) := hid (Own.lit .u8 5 W33 w1.heap.size [lf, pr, 0, 0] _ 4 rfl rfl B.out.size (by simp [maxLen]) (by intro z hz; simp at hz; apply hlp.u8wf; omega))
    have B := hid (B.out.alloc B.out.size (.cells #[.int .u8 lf, .int .u8 pr, .int .u8 0, .int .u8 0] 5)); have V33 := hid (V33.out.alloc (.cells #[.int .u8 lf, .int .u8 pr, .int .u8 0, .int .u8 0] 5)); have OB := hid (OB.out.alloc (.cells #[.int .u8 lf, .int .u8 pr, .int .u8 0, .int .u8 0] 5))
    go_wp2_with (at_builtin; refine wpList_app _ rfl (.tmp 45) (.tmp 52) _ rfl hlp.elemB w1.heap.size _ ([64 + (hh : Int) / 4, sv] ++ ref.two (((hh : Nat) : Int) + (dn : Int)) ++ ref.two pid ++ ref.two (off / 8 + 16384)) rfl ?c34a (some ⟨W33.heap.size, 0, none⟩) 4 4 ([lf, pr, 0, 0]) rfl ?c34b ?c34c ?c34d ?c34e ?c34f ?_)
    case c34a => exact V33.out
    case c34b => exact VL.out.rd
    case c34c => simp
    case c34d => first | (simp [ref.two, ref.four]; done) | (simp [ref.two, ref.four]; omega) | omega
    case c34e => unfold maxLen; first | (simp [ref.two, ref.four]; done) | (simp [ref.two, ref.four]; omega) | omega
    case c34f => have := B.out.size; first | omega | (simp; omega) | (simp at this; simp; omega)
    intro v34 W34 hv hg hb
    have V34 := hid hv
    have B := hid (B.out.grown hg (by have := B.out.size; first | omega | (simp; omega) | (simp at this; simp; omega)) (fun k hk => ((V33.out).lt k hk).1))
    have OB := hid (OB.out.grown hg (own_neP6 OB.out V33.out))
    clear hv hg hb
    clear VL V33 k0 k1 k2 k3 k4 k5 k6 k7 k8 k9 k10
    have k0 := OB.out.cell 0; have k1 := OB.out.cell 1; have k2 := OB.out.cell 2; have k3 := OB.out.cell 3; have k4 := OB.out.cell 4; have k5 := OB.out.cell 5; have k6 := OB.out.cell 6; have k7 := OB.out.cell 7; have k8 := OB.out.cell 8; have k9 := OB.out.cell 9; have k10 := OB.out.cell 10
    go_wp2_with fail
    refine (ref.four1 _ fr).mono ?_
    rintro x w15 ⟨g15, rfl, h15, o15⟩
    have V34 := hid (V34.out.only_nil o15); have P := hid h15.rd; have OB := hid (OB.out.only o15 (by simp)); have B := hid (B.out.trans (o15.below_nil.mono B.out.size)); clear h15 o15 k0 k1 k2 k3 k4 k5 k6 k7 k8 k9 k10
    have k0 := OB.out.cell 0; have k1 := OB.out.cell 1; have k2 := OB.out.cell 2; have k3 := OB.out.cell 3; have k4 := OB.out.cell 4; have k5 := OB.out.cell 5; have k6 := OB.out.cell 6; have k7 := OB.out.cell 7; have k8 := OB.out.cell 8; have k9 := OB.out.cell 9; have k10 := OB.out.cell 10
    go_wp2_with (at_builtin; refine wpList_app _ rfl (.tmp 54) (.tmp 57) _ rfl hlp.elemB w1.heap.size _ ([64 + (hh : Int) / 4, sv] ++ ref.two (((hh : Nat) : Int) + (dn : Int)) ++ ref.two pid ++ ref.two (off / 8 + 16384) ++ [lf, pr, 0, 0]) rfl ?c35a (some ⟨g15, 0, none⟩) 4 4 (ref.four fr) rfl ?c35b ?c35c ?c35d ?c35e ?c35f ?_)
    case c35a => exact V34.out
    case c35b => exact P.out
    case c35c => simp
    case c35d => first | (simp [ref.two, ref.four]; done) | (simp [ref.two, ref.four]; omega) | omega
    case c35e => unfold maxLen; first | (simp [ref.two, ref.four]; done) | (simp [ref.two, ref.four]; omega) | omega
    case c35f => have := B.out.size; first | omega | (simp; omega) | (simp at this; simp; omega)
    intro v35 W35 hv hg hb
    have V35 := hid hv
    have B := hid (B.out.grown hg (by have := B.out.size; first | omega | (simp; omega) | (simp at this; simp; omega)) (fun k hk => ((V34.out).lt k hk).1))
    have OB := hid (OB.out.grown hg (own_neP6 OB.out V34.out))
    clear hv hg hb
    clear P V34 k0 k1 k2 k3 k4 k5 k6 k7 k8 k9 k10
    have k0 := OB.out.cell 0; have k1 := OB.out.cell 1; have k2 := OB.out.cell 2; have k3 := OB.out.cell 3; have k4 := OB.out.cell 4; have k5 := OB.out.cell 5; have k6 := OB.out.cell 6; have k7 := OB.out.cell 7; have k8 := OB.out.cell 8; have k9 := OB.out.cell 9; have k10 := OB.out.cell 10
    go_wp2_with fail
    refine (ref.four1 _ to).mono ?_
    rintro x w16 ⟨g16, rfl, h16, o16⟩
    have V35 := hid (V35.out.only_nil o16); have P := hid h16.rd; have OB := hid (OB.out.only o16 (by simp)); have B := hid (B.out.trans (o16.below_nil.mono B.out.size)); clear h16 o16 k0 k1 k2 k3 k4 k5 k6 k7 k8 k9 k10
    have k0 := OB.out.cell 0; have k1 := OB.out.cell 1; have k2 := OB.out.cell 2; have k3 := OB.out.cell 3; have k4 := OB.out.cell 4; have k5 := OB.out.cell 5; have k6 := OB.out.cell 6; have k7 := OB.out.cell 7; have k8 := OB.out.cell 8; have k9 := OB.out.cell 9; have k10 := OB.out.cell 10
    go_wp2_with (at_builtin; refine wpList_app _ rfl (.tmp 59) (.tmp 62) _ rfl hlp.elemB w1.heap.size _ ([64 + (hh : Int) / 4, sv] ++ ref.two (((hh : Nat) : Int) + (dn : Int)) ++ ref.two pid ++ ref.two (off / 8 + 16384) ++ [lf, pr, 0, 0] ++ ref.four fr) rfl ?c36a (some ⟨g16, 0, none⟩) 4 4 (ref.four to) rfl ?c36b ?c36c ?c36d ?c36e ?c36f ?_)
    case c36a => exact V35.out
    case c36b => exact P.out
    case c36c => simp
    case c36d => first | (simp [ref.two, ref.four]; done) | (simp [ref.two, ref.four]; omega) | omega
    case c36e => unfold maxLen; first | (simp [ref.two, ref.four]; done) | (simp [ref.two, ref.four]; omega) | omega
    case c36f => have := B.out.size; first | omega | (simp; omega) | (simp at this; simp; omega)
    intro v36 W36 hv hg hb
    have V36 := hid hv
    have B := hid (B.out.grown hg (by have := B.out.size; first | omega | (simp; omega) | (simp at this; simp; omega)) (fun k hk => ((V35.out).lt k hk).1))
    have OB := hid (OB.out.grown hg (own_neP6 OB.out V35.out))
    clear hv hg hb
    clear P V35 k0 k1 k2 k3 k4 k5 k6 k7 k8 k9 k10
    have k0 := OB.out.cell 0; have k1 := OB.out.cell 1; have k2 := OB.out.cell 2; have k3 := OB.out.cell 3; have k4 := OB.out.cell 4; have k5 := OB.out.cell 5; have k6 := OB.out.cell 6; have k7 := OB.out.cell 7; have k8 := OB.out.cell 8; have k9 := OB.out.cell 9; have k10 := OB.out.cell 10
    go_wp2_with (at_builtin; refine wpList_app _ rfl (.tmp 64) (.tmp 66) _ rfl hlp.elemB w1.heap.size _ ([64 + (hh : Int) / 4, sv] ++ ref.two (((hh : Nat) : Int) + (dn : Int)) ++ ref.two pid ++ ref.two (off / 8 + 16384) ++ [lf, pr, 0, 0] ++ ref.four fr ++ ref.four to) rfl ?c37a oA on oc (o) rfl ?c37b ?c37c ?c37d ?c37e ?c37f ?_)
    case c37a => exact V36.out
    case c37b => exact (HO.out.only_nil Q0.out).below B.out (Nat.le_refl _)
    case c37c => exact HOC.out
    case c37d => first | (simp [ref.two, ref.four, HOLen.out]; done) | (simp [ref.two, ref.four, HOLen.out]; omega) | omega
    case c37e => unfold maxLen; first | (simp [ref.two, ref.four, HOLen.out]; done) | (simp [ref.two, ref.four, HOLen.out]; omega) | omega
    case c37f => have := B.out.size; first | omega | (simp; omega) | (simp at this; simp; omega)
    intro v37 W37 hv hg hb
    have V37 := hid hv
    have B := hid (B.out.grown hg (by have := B.out.size; first | omega | (simp; omega) | (simp at this; simp; omega)) (fun k hk => ((V36.out).lt k hk).1))
    have OB := hid (OB.out.grown hg (own_neP6 OB.out V36.out))
    clear hv hg hb
    clear V36 k0 k1 k2 k3 k4 k5 k6 k7 k8 k9 k10
    have HBase : Hid (∀ j, [64 + (hh : Int) / 4, sv] ++ ref.two (((hh : Nat) : Int) + (dn : Int)) ++ ref.two pid ++ ref.two (off / 8 + 16384) ++ [lf, pr, 0, 0] ++ ref.four fr ++ ref.four to ++ o ++ List.replicate j 0 = pre ++ List.replicate j 0) := hid (by
      intro j
      have m1 : (64 + (hh : Int) / 4) % 256 = 64 + (hh : Int) / 4 := by omega
      have m2 : sv % 256 = sv := by omega
      have m3 : lf % 256 = lf := by omega
      have m4 : pr % 256 = pr := by omega
      rw [HPre.out]
      simp [ref.two, ref.four, b2, b4, pbs, m1, m2, m3, m4])
    have VV : Hid (Own .u8 5 W37 w1.heap.size v37 (pre ++ List.replicate 0 0)) := hid (by have h := V37.out; rw [← HBase.out 0]; simpa using h)
    clear HBase V37
    obtain ⟨A0, c0, ev0, _, _, _, _⟩ := VV.out.slice
    rw [show List.length (pre ++ List.replicate 0 (0 : Int)) = 20 + on from by simp [HPL.out]] at ev0
    subst ev0
    generalize W37 = Wb at *
    go_wp2
    go_loopw [7] (fun v wr => ∃ (jj : Nat) (A : Option Addr) (c : Nat), 20 + on + jj ≤ hh ∧ v = .slice A (20 + on + jj) c ∧ Hid (Own .u8 5 wr w1.heap.size (.slice A (20 + on + jj) c) (pre ++ List.replicate jj 0)) ∧ Hid (Below w1.heap.size w1 wr)) (fun v _ => hh - (match v with | .slice _ n _ => n | _ => 0))
    case atStart => exact ⟨0, A0, c0, by omega, rfl, by simpa using VV, B⟩
    case round =>
      clear VV B OB
      obtain ⟨jj, A, c, hj, rfl, VV, B⟩ := hrel
      by_cases hlt : 20 + on + jj < hh
      · have hlt2 : ((20 + on + jj : Nat) : Int) < hh := by omega
        have VL : Hid (Own .u8 5 (wr.alloc (.cells #[.int .u8 0] 5)) w1.heap.size (.slice (some ⟨wr.heap.size, 0, none⟩) 1 1) [0]) := hid (Own.lit .u8 5 wr w1.heap.size [0] _ 1 rfl rfl B.out.size (by simp [maxLen]) (by intro z hz; simp at hz; apply hlp.u8wf; omega))
        have B := hid (B.out.alloc B.out.size (.cells #[.int .u8 0] 5)); have VV := hid (VV.out.alloc (.cells #[.int .u8 0] 5))
        have hpl : List.length (pre ++ List.replicate jj (0 : Int)) = 20 + on + jj := by simp [HPL.out]
        have HPP := hid hpl; clear hpl
        go_wp2_with (at_builtin; refine wpList_app _ rfl (.tmp 72) (.tmp 73) _ rfl hlp.elemB w1.heap.size _ (pre ++ List.replicate jj 0) rfl ?c60a (some ⟨wr.heap.size, 0, none⟩) 1 1 ([0]) rfl ?c60b ?c60c ?c60d ?c60e ?c60f ?_)
        case c60a => exact VV.out
        case c60b => exact VL.out.rd
        case c60c => simp
        case c60d => first | (rw [HPP.out]; done) | (rw [HPP.out]; omega) | omega
        case c60e => unfold maxLen; first | (rw [HPP.out]; done) | (rw [HPP.out]; omega) | omega
        case c60f => have := B.out.size; first | omega | (simp; omega) | (simp at this; simp; omega)
        intro v60 W60 hv hg hb
        have V60 := hid hv
        have B := hid (B.out.grown hg (by have := B.out.size; first | omega | (simp; omega) | (simp at this; simp; omega)) (fun k hk => ((VV.out).lt k hk).1))
        clear hv hg hb
        obtain ⟨A9, c9, ev9, _, _, _, _⟩ := V60.out.slice
        have e9 : v60 = .slice A9 (20 + on + (jj + 1)) c9 := by rw [ev9]; congr 1; simp [HPL.out] <;> omega
        subst e9
        clear ev9
        have V61 : Hid (Own .u8 5 W60 w1.heap.size (.slice A9 (20 + on + (jj + 1)) c9) (pre ++ List.replicate (jj + 1) 0)) := hid (by have h := V60.out; rw [List.replicate_succ']; first | exact h | (rw [← List.append_assoc]; exact h))
        clear V60 VL
        go_wp2
        go_roundw
        case rel => exact ⟨jj + 1, A9, c9, by omega, rfl, V61, B⟩
        case measure => show hh - (20 + on + (jj + 1)) < hh - (20 + on + jj); omega
      · obtain hjj : jj = hh - 20 - on := by omega
        have hlt2 : ¬ ((20 + on + jj : Nat) : Int) < hh := by omega
        have HH0 : Hid (pre ++ List.replicate jj 0 = hdr sv pid off lf pr true false fr to o dn 0) := hid (by rw [HHD.out, hjj])
        have hpl : (hdr sv pid off lf pr true false fr to o dn 0).length = 20 + on + jj := by rw [← HH0.out]; simp [HPL.out]
        rw [HH0.out] at VV
        clear hjj HH0
        obtain ⟨g, cap, e2⟩ := VV.out.some_form (by rw [hpl]; omega)
        rw [hpl] at e2
        injection e2 with e2 _ e3
        subst e2 e3
        have HSB : Hid (0 ≤ sm ∧ sm ≤ 65535) := hid (by
          rw [← HSU.out]
          have hw := VV.out.2
          have := oct.F_bd (oct.ws (hdr sv pid off lf pr true false fr to o dn 0)) (oct.ws_bd _ (fun z hz => u8Bd (hw z hz))).1
          unfold oct.sumF; omega)
        go_wp2_with fail
        refine (oct.sum2 _ (some ⟨g, 0, none⟩) (20 + on + jj) _ _ VV.out.rd (by omega)).mono ?_
        rintro x w70 ⟨rfl, m70, rfl⟩
        rw [HSU.out]
        have VV := hid (VV.out.drewN m70)
        have HQ1 := hid ((Q0.out.trans (Only.of_below (S := []) B.out)).drewN m70)
        obtain ⟨hs1, hs2⟩ := HSB.out
        have c2 := VV.out.cellD 10 (by omega)
        have f2 := VV.out.frozen 10
        have V4 := hid (VV.out.set 10 (sm / 256) (hlp.u8wf (by omega)))
        have c3 := V4.out.cellD 11 (by omega)
        have f3 := V4.out.frozen 11
        have V5 := hid (V4.out.set 11 (sm % 256) (hlp.u8wf (by omega)))
        have hlow : w.heap.size ≤ g := by have h1 := VV.out.base_le.1; omega
        have HQ2 := hid ((HQ1.out.setCell (p := ⟨g, 10, none⟩) (Or.inr hlow) (.int .u8 (sm / 256))).setCell (p := ⟨g, 11, none⟩) (Or.inr hlow) (.int .u8 (sm % 256)))
        have hi10 : (10 : Int) < ((20 + on + jj : Nat) : Int) := by omega
        have hi11 : (11 : Int) < ((20 + on + jj : Nat) : Int) := by omega
        go_wp2
        go_ret
        exact ⟨_, rfl, by rw [HSET.out]; exact V5.out.mono_base (by omega), HQ2.out⟩
  · skip
    go_enter Try.func47, Try.ntmps47
    go_wp2_with fail
    refine (head2 _ sv pid off lf pr true true fr to oA on oc dA dn dc (by omega)).mono ?_
    rintro x w1 ⟨rfl, o1⟩
    generalize hhe : hl on = hh at *
    have HHE := hid hhe; clear hhe
    have OB := hid (OB.out.only o1 (by simp)); have Q0 := hid (Q0.out.trans o1); clear o1 k0 k1 k2 k3 k4 k5 k6 k7 k8 k9 k10
    have k0 := OB.out.cell 0; have k1 := OB.out.cell 1; have k2 := OB.out.cell 2; have k3 := OB.out.cell 3; have k4 := OB.out.cell 4; have k5 := OB.out.cell 5; have k6 := OB.out.cell 6; have k7 := OB.out.cell 7; have k8 := OB.out.cell 8; have k9 := OB.out.cell 9; have k10 := OB.out.cell 10
    have hgs : w.heap.size < w1.heap.size := OB.out.lt
    have VL : Hid (Own .u8 5 (w1.alloc (.cells #[.int .u8 (64 + (hh : Int) / 4), .int .u8 sv] 5)) w1.heap.size (.slice (some ⟨w1.heap.size, 0, none⟩) 2 2) [(64 + (hh : Int) / 4), sv]) := hid (Own.lit .u8 5 w1 w1.heap.size [(64 + (hh : Int) / 4), sv] _ 2 rfl rfl (Nat.le_refl _) (by simp [maxLen]) (by intro z hz; simp at hz; apply hlp.u8wf; omega))
    have V0 := VL; clear VL
    have B : Hid (Below w1.heap.size w1 (w1.alloc (.cells #[.int .u8 (64 + (hh : Int) / 4), .int .u8 sv] 5))) := hid ((Below.refl _ _).alloc (Nat.le_refl _) _)
    have OB := hid (OB.out.alloc (.cells #[.int .u8 (64 + (hh : Int) / 4), .int .u8 sv] 5))
    go_wp2_with fail
    refine (ref.two1 _ (((hh : Nat) : Int) + (dn : Int))).mono ?_
    rintro x w11 ⟨g11, rfl, h11, o11⟩
    have V0 := hid (V0.out.only_nil o11); have P := hid h11.rd; have OB := hid (OB.out.only o11 (by simp)); have B := hid (B.out.trans (o11.below_nil.mono B.out.size)); clear h11 o11 k0 k1 k2 k3 k4 k5 k6 k7 k8 k9 k10
    have k0 := OB.out.cell 0; have k1 := OB.out.cell 1; have k2 := OB.out.cell 2; have k3 := OB.out.cell 3; have k4 := OB.out.cell 4; have k5 := OB.out.cell 5; have k6 := OB.out.cell 6; have k7 := OB.out.cell 7; have k8 := OB.out.cell 8; have k9 := OB.out.cell 9; have k10 := OB.out.cell 10
    go_wp2_with (at_builtin; refine wpList_app _ rfl (.tmp 30) (.tmp 34) _ rfl hlp.elemB w1.heap.size _ ([64 + (hh : Int) / 4, sv]) rfl ?c31a (some ⟨g11, 0, none⟩) 2 2 (ref.two (((hh : Nat) : Int) + (dn : Int))) rfl ?c31b ?c31c ?c31d ?c31e ?c31f ?_)
    case c31a => exact V0.out
    case c31b => exact P.out
    case c31c => simp
    case c31d => first | (simp [ref.two, ref.four]; done) | (simp [ref.two, ref.four]; omega) | omega
    case c31e => unfold maxLen; first | (simp [ref.two, ref.four]; done) | (simp [ref.two, ref.four]; omega) | omega
    case c31f => have := B.out.size; first | omega | (simp; omega) | (simp at this; simp; omega)
    intro v31 W31 hv hg hb
    have V31 := hid hv
    have B := hid (B.out.grown hg (by have := B.out.size; first | omega | (simp; omega) | (simp at this; simp; omega)) (fun k hk => ((V0.out).lt k hk).1))
    have OB := hid (OB.out.grown hg (own_neP6 OB.out V0.out))
    clear hv hg hb
    clear P V0 k0 k1 k2 k3 k4 k5 k6 k7 k8 k9 k10
    have k0 := OB.out.cell 0; have k1 := OB.out.cell 1; have k2 := OB.out.cell 2; have k3 := OB.out.cell 3; have k4 := OB.out.cell 4; have k5 := OB.out.cell 5; have k6 := OB.out.cell 6; have k7 := OB.out.cell 7; have k8 := OB.out.cell 8; have k9 := OB.out.cell 9; have k10 := OB.out.cell 10
    go_wp2_with fail
    refine (ref.two1 _ pid).mono ?_
    rintro x w12 ⟨g12, rfl, h12, o12⟩
    have V31 := hid (V31.out.only_nil o12); have P := hid h12.rd; have OB := hid (OB.out.only o12 (by simp)); have B := hid (B.out.trans (o12.below_nil.mono B.out.size)); clear h12 o12 k0 k1 k2 k3 k4 k5 k6 k7 k8 k9 k10
    have k0 := OB.out.cell 0; have k1 := OB.out.cell 1; have k2 := OB.out.cell 2; have k3 := OB.out.cell 3; have k4 := OB.out.cell 4; have k5 := OB.out.cell 5; have k6 := OB.out.cell 6; have k7 := OB.out.cell 7; have k8 := OB.out.cell 8; have k9 := OB.out.cell 9; have k10 := OB.out.cell 10
    go_wp2_with (at_builtin; refine wpList_app _ rfl (.tmp 36) (.tmp 39) _ rfl hlp.elemB w1.heap.size _ ([64 + (hh : Int) / 4, sv] ++ ref.two (((hh : Nat) : Int) + (dn : Int))) rfl ?c32a (some ⟨g12, 0, none⟩) 2 2 (ref.two pid) rfl ?c32b ?c32c ?c32d ?c32e ?c32f ?_)
    case c32a => exact V31.out
    case c32b => exact P.out
    case c32c => simp
    case c32d => first | (simp [ref.two, ref.four]; done) | (simp [ref.two, ref.four]; omega) | omega
    case c32e => unfold maxLen; first | (simp [ref.two, ref.four]; done) | (simp [ref.two, ref.four]; omega) | omega
    case c32f => have := B.out.size; first | omega | (simp; omega) | (simp at this; simp; omega)
    intro v32 W32 hv hg hb
    have V32 := hid hv
    have B := hid (B.out.grown hg (by have := B.out.size; first | omega | (simp; omega) | (simp at this; simp; omega)) (fun k hk => ((V31.out).lt k hk).1))
    have OB := hid (OB.out.grown hg (own_neP6 OB.out V31.out))
    clear hv hg hb
    clear P V31 k0 k1 k2 k3 k4 k5 k6 k7 k8 k9 k10
    have k0 := OB.out.cell 0; have k1 := OB.out.cell 1; have k2 := OB.out.cell 2; have k3 := OB.out.cell 3; have k4 := OB.out.cell 4; have k5 := OB.out.cell 5; have k6 := OB.out.cell 6; have k7 := OB.out.cell 7; have k8 := OB.out.cell 8; have k9 := OB.out.cell 9; have k10 := OB.out.cell 10
    go_wp2_with fail
    refine (ref.two1 _ (off / 8 + 16384 + 8192)).mono ?_
    rintro x w13 ⟨g13, rfl, h13, o13⟩
    have V32 := hid (V32.out.only_nil o13); have P := hid h13.rd; have OB := hid (OB.out.only o13 (by simp)); have B := hid (B.out.trans (o13.below_nil.mono B.out.size)); clear h13 o13 k0 k1 k2 k3 k4 k5 k6 k7 k8 k9 k10
    have k0 := OB.out.cell 0; have k1 := OB.out.cell 1; have k2 := OB.out.cell 2; have k3 := OB.out.cell 3; have k4 := OB.out.cell 4; have k5 := OB.out.cell 5; have k6 := OB.out.cell 6; have k7 := OB.out.cell 7; have k8 := OB.out.cell 8; have k9 := OB.out.cell 9; have k10 := OB.out.cell 10
    go_wp2_with (at_builtin; refine wpList_app _ rfl (.tmp 41) (.tmp 43) _ rfl hlp.elemB w1.heap.size _ ([64 + (hh : Int) / 4, sv] ++ ref.two (((hh : Nat) : Int) + (dn : Int)) ++ ref.two pid) rfl ?c33a (some ⟨g13, 0, none⟩) 2 2 (ref.two (off / 8 + 16384 + 8192)) rfl ?c33b ?c33c ?c33d ?c33e ?c33f ?_)
    case c33a => exact V32.out
    case c33b => exact P.out
    case c33c => simp
    case c33d => first | (simp [ref.two, ref.four]; done) | (simp [ref.two, ref.four]; omega) | omega
    case c33e => unfold maxLen; first | (simp [ref.two, ref.four]; done) | (simp [ref.two, ref.four]; omega) | omega
    case c33f => have := B.out.size; first | omega | (simp; omega) | (simp at this; simp; omega)
    intro v33 W33 hv hg hb
    have V33 := hid hv
    have B := hid (B.out.grown hg (by have := B.out.size; first | omega | (simp; omega) | (simp at this; simp; omega)) (fun k hk => ((V32.out).lt k hk).1))
    have OB := hid (OB.out.grown hg (own_neP6 OB.out V32.out))
    clear hv hg hb
    clear P V32 k0 k1 k2 k3 k4 k5 k6 k7 k8 k9 k10
    have k0 := OB.out.cell 0; have k1 := OB.out.cell 1; have k2 := OB.out.cell 2; have k3 := OB.out.cell 3; have k4 := OB.out.cell 4; have k5 := OB.out.cell 5; have k6 := OB.out.cell 6; have k7 := OB.out.cell 7; have k8 := OB.out.cell 8; have k9 := OB.out.cell 9; have k10 := OB.out.cell 10
    have VL : Hid (Own .u8 5 (W33.alloc (.cells #[.int .u8 lf, .int .u8 pr, .int .u8 0, .int .u8 0] 5)) w1.heap.size (.slice (some ⟨W33.heap.size, 0, none⟩) 4 4) [lf, pr, 0, 0]) := hid (Own.lit .u8 5 W33 w1.heap.size [lf, pr, 0, 0] _ 4 rfl rfl B.out.size (by simp [maxLen]) (by intro z hz; simp at hz; apply hlp.u8wf; omega))
    have B := hid (B.out.alloc B.out.size (.cells #[.int .u8 lf, .int .u8 pr, .int .u8 0, .int .u8 0] 5)); have V33 := hid (V33.out.alloc (.cells #[.int .u8 lf, .int .u8 pr, .int .u8 0, .int .u8 0] 5)); have OB := hid (OB.out.alloc (.cells #[.int .u8 lf, .int .u8 pr, .int .u8 0, .int .u8 0] 5))
    go_wp2_with (at_builtin; refine wpList_app _ rfl (.tmp 45) (.tmp 52) _ rfl hlp.elemB w1.heap.size _ ([64 + (hh : Int) / 4, sv] ++ ref.two (((hh : Nat) : Int) + (dn : Int)) ++ ref.two pid ++ ref.two (off / 8 + 16384 + 8192)) rfl ?c34a (some ⟨W33.heap.size, 0, none⟩) 4 4 ([lf, pr, 0, 0]) rfl ?c34b ?c34c ?c34d ?c34e ?c34f ?_)
    case c34a => exact V33.out
    case c34b => exact VL.out.rd
    case c34c => simp
    case c34d => first | (simp [ref.two, ref.four]; done) | (simp [ref.two, ref.four]; omega) | omega
    case c34e => unfold maxLen; first | (simp [ref.two, ref.four]; done) | (simp [ref.two, ref.four]; omega) | omega
    case c34f => have := B.out.size; first | omega | (simp; omega) | (simp at this; simp; omega)
    intro v34 W34 hv hg hb
    have V34 := hid hv
    have B := hid (B.out.grown hg (by have := B.out.size; first | omega | (simp; omega) | (simp at this; simp; omega)) (fun k hk => ((V33.out).lt k hk).1))
    have OB := hid (OB.out.grown hg (own_neP6 OB.out V33.out))
    clear hv hg hb
    clear VL V33 k0 k1 k2 k3 k4 k5 k6 k7 k8 k9 k10
    have k0 := OB.out.cell 0; have k1 := OB.out.cell 1; have k2 := OB.out.cell 2; have k3 := OB.out.cell 3; have k4 := OB.out.cell 4; have k5 := OB.out.cell 5; have k6 := OB.out.cell 6; have k7 := OB.out.cell 7; have k8 := OB.out.cell 8; have k9 := OB.out.cell 9; have k10 := OB.out.cell 10
    go_wp2_with fail
    refine (ref.four1 _ fr).mono ?_
    rintro x w15 ⟨g15, rfl, h15, o15⟩
    have V34 := hid (V34.out.only_nil o15); have P := hid h15.rd; have OB := hid (OB.out.only o15 (by simp)); have B := hid (B.out.trans (o15.below_nil.mono B.out.size)); clear h15 o15 k0 k1 k2 k3 k4 k5 k6 k7 k8 k9 k10
    have k0 := OB.out.cell 0; have k1 := OB.out.cell 1; have k2 := OB.out.cell 2; have k3 := OB.out.cell 3; have k4 := OB.out.cell 4; have k5 := OB.out.cell 5; have k6 := OB.out.cell 6; have k7 := OB.out.cell 7; have k8 := OB.out.cell 8; have k9 := OB.out.cell 9; have k10 := OB.out.cell 10
    go_wp2_with (at_builtin; refine wpList_app _ rfl (.tmp 54) (.tmp 57) _ rfl hlp.elemB w1.heap.size _ ([64 + (hh : Int) / 4, sv] ++ ref.two (((hh : Nat) : Int) + (dn : Int)) ++ ref.two pid ++ ref.two (off / 8 + 16384 + 8192) ++ [lf, pr, 0, 0]) rfl ?c35a (some ⟨g15, 0, none⟩) 4 4 (ref.four fr) rfl ?c35b ?c35c ?c35d ?c35e ?c35f ?_)
    case c35a => exact V34.out
    case c35b => exact P.out
    case c35c => simp
    case c35d => first | (simp [ref.two, ref.four]; done) | (simp [ref.two, ref.four]; omega) | omega
    case c35e => unfold maxLen; first | (simp [ref.two, ref.four]; done) | (simp [ref.two, ref.four]; omega) | omega
    case c35f => have := B.out.size; first | omega | (simp; omega) | (simp at this; simp; omega)
    intro v35 W35 hv hg hb
    have V35 := hid hv
    have B := hid (B.out.grown hg (by have := B.out.size; first | omega | (simp; omega) | (simp at this; simp; omega)) (fun k hk => ((V34.out).lt k hk).1))
    have OB := hid (OB.out.grown hg (own_neP6 OB.out V34.out))
    clear hv hg hb
    clear P V34 k0 k1 k2 k3 k4 k5 k6 k7 k8 k9 k10
    have k0 := OB.out.cell 0; have k1 := OB.out.cell 1; have k2 := OB.out.cell 2; have k3 := OB.out.cell 3; have k4 := OB.out.cell 4; have k5 := OB.out.cell 5; have k6 := OB.out.cell 6; have k7 := OB.out.cell 7; have k8 := OB.out.cell 8; have k9 := OB.out.cell 9; have k10 := OB.out.cell 10
    go_wp2_with fail
    refine (ref.four1 _ to).mono ?_
    rintro x w16 ⟨g16, rfl, h16, o16⟩
    have V35 := hid (V35.out.only_nil o16); have P := hid h16.rd; have OB := hid (OB.out.only o16 (by simp)); have B := hid (B.out.trans (o16.below_nil.mono B.out.size)); clear h16 o16 k0 k1 k2 k3 k4 k5 k6 k7 k8 k9 k10
    have k0 := OB.out.cell 0; have k1 := OB.out.cell 1; have k2 := OB.out.cell 2; have k3 := OB.out.cell 3; have k4 := OB.out.cell 4; have k5 := OB.out.cell 5; have k6 := OB.out.cell 6; have k7 := OB.out.cell 7; have k8 := OB.out.cell 8; have k9 := OB.out.cell 9; have k10 := OB.out.cell 10
    go_wp2_with (at_builtin; refine wpList_app _ rfl (.tmp 59) (.tmp 62) _ rfl hlp.elemB w1.heap.size _ ([64 + (hh : Int) / 4, sv] ++ ref.two (((hh : Nat) : Int) + (dn : Int)) ++ ref.two pid ++ ref.two (off / 8 + 16384 + 8192) ++ [lf, pr, 0, 0] ++ ref.four fr) rfl ?c36a (some ⟨g16, 0, none⟩) 4 4 (ref.four to) rfl ?c36b ?c36c ?c36d ?c36e ?c36f ?_)
    case c36a => exact V35.out
    case c36b => exact P.out
    case c36c => simp
    case c36d => first | (simp [ref.two, ref.four]; done) | (simp [ref.two, ref.four]; omega) | omega
    case c36e => unfold maxLen; first | (simp [ref.two, ref.four]; done) | (simp [ref.two, ref.four]; omega) | omega
    case c36f => have := B.out.size; first | omega | (simp; omega) | (simp at this; simp; omega)
    intro v36 W36 hv hg hb
    have V36 := hid hv
    have B := hid (B.out.grown hg (by have := B.out.size; first | omega | (simp; omega) | (simp at this; simp; omega)) (fun k hk => ((V35.out).lt k hk).1))
    have OB := hid (OB.out.grown hg (own_neP6 OB.out V35.out))
    clear hv hg hb
    clear P V35 k0 k1 k2 k3 k4 k5 k6 k7 k8 k9 k10
    have k0 := OB.out.cell 0; have k1 := OB.out.cell 1; have k2 := OB.out.cell 2; have k3 := OB.out.cell 3; have k4 := OB.out.cell 4; have k5 := OB.out.cell 5; have k6 := OB.out.cell 6; have k7 := OB.out.cell 7; have k8 := OB.out.cell 8; have k9 := OB.out.cell 9; have k10 := OB.out.cell 10
    go_wp2_with (at_builtin; refine wpList_app _ rfl (.tmp 64) (.tmp 66) _ rfl hlp.elemB w1.heap.size _ ([64 + (hh : Int) / 4, sv] ++ ref.two (((hh : Nat) : Int) + (dn : Int)) ++ ref.two pid ++ ref.two (off / 8 + 16384 + 8192) ++ [lf, pr, 0, 0] ++ ref.four fr ++ ref.four to) rfl ?c37a oA on oc (o) rfl ?c37b ?c37c ?c37d ?c37e ?c37f ?_)
    case c37a => exact V36.out
    case c37b => exact (HO.out.only_nil Q0.out).below B.out (Nat.le_refl _)
    case c37c => exact HOC.out
    case c37d => first | (simp [ref.two, ref.four, HOLen.out]; done) | (simp [ref.two, ref.four, HOLen.out]; omega) | omega
    case c37e => unfold maxLen; first | (simp [ref.two, ref.four, HOLen.out]; done) | (simp [ref.two, ref.four, HOLen.out]; omega) | omega
    case c37f => have := B.out.size; first | omega | (simp; omega) | (simp at this; simp; omega)
    intro v37 W37 hv hg hb
    have V37 := hid hv
    have B := hid (B.out.grown hg (by have := B.out.size; first | omega | (simp; omega) | (simp at this; simp; omega)) (fun k hk => ((V36.out).lt k hk).1))
    have OB := hid (OB.out.grown hg (own_neP6 OB.out V36.out))
    clear hv hg hb
    clear V36 k0 k1 k2 k3 k4 k5 k6 k7 k8 k9 k10
    have HBase : Hid (∀ j, [64 + (hh : Int) / 4, sv] ++ ref.two (((hh : Nat) : Int) + (dn : Int)) ++ ref.two pid ++ ref.two (off / 8 + 16384 + 8192) ++ [lf, pr, 0, 0] ++ ref.four fr ++ ref.four to ++ o ++ List.replicate j 0 = pre ++ List.replicate j 0) := hid (by
      intro j
      have m1 : (64 + (hh : Int) / 4) % 256 = 64 + (hh : Int) / 4 := by omega
      have m2 : sv % 256 = sv := by omega
      have m3 : lf % 256 = lf := by omega
      have m4 : pr % 256 = pr := by omega
      rw [HPre.out]
      simp [ref.two, ref.four, b2, b4, pbs, m1, m2, m3, m4])
    have VV : Hid (Own .u8 5 W37 w1.heap.size v37 (pre ++ List.replicate 0 0)) := hid (by have h := V37.out; rw [← HBase.out 0]; simpa using h)
    clear HBase V37
    obtain ⟨A0, c0, ev0, _, _, _, _⟩ := VV.out.slice
    rw [show List.length (pre ++ List.replicate 0 (0 : Int)) = 20 + on from by simp [HPL.out]] at ev0
    subst ev0
    generalize W37 = Wb at *
    go_wp2
    go_loopw [7] (fun v wr => ∃ (jj : Nat) (A : Option Addr) (c : Nat), 20 + on + jj ≤ hh ∧ v = .slice A (20 + on + jj) c ∧ Hid (Own .u8 5 wr w1.heap.size (.slice A (20 + on + jj) c) (pre ++ List.replicate jj 0)) ∧ Hid (Below w1.heap.size w1 wr)) (fun v _ => hh - (match v with | .slice _ n _ => n | _ => 0))
    case atStart => exact ⟨0, A0, c0, by omega, rfl, by simpa using VV, B⟩
    case round =>
      clear VV B OB
      obtain ⟨jj, A, c, hj, rfl, VV, B⟩ := hrel
      by_cases hlt : 20 + on + jj < hh
      · have hlt2 : ((20 + on + jj : Nat) : Int) < hh := by omega
        have VL : Hid (Own .u8 5 (wr.alloc (.cells #[.int .u8 0] 5)) w1.heap.size (.slice (some ⟨wr.heap.size, 0, none⟩) 1 1) [0]) := hid (Own.lit .u8 5 wr w1.heap.size [0] _ 1 rfl rfl B.out.size (by simp [maxLen]) (by intro z hz; simp at hz; apply hlp.u8wf; omega))
        have B := hid (B.out.alloc B.out.size (.cells #[.int .u8 0] 5)); have VV := hid (VV.out.alloc (.cells #[.int .u8 0] 5))
        have hpl : List.length (pre ++ List.replicate jj (0 : Int)) = 20 + on + jj := by simp [HPL.out]
        have HPP := hid hpl; clear hpl
        go_wp2_with (at_builtin; refine wpList_app _ rfl (.tmp 72) (.tmp 73) _ rfl hlp.elemB w1.heap.size _ (pre ++ List.replicate jj 0) rfl ?c60a (some ⟨wr.heap.size, 0, none⟩) 1 1 ([0]) rfl ?c60b ?c60c ?c60d ?c60e ?c60f ?_)
        case c60a => exact VV.out
        case c60b => exact VL.out.rd
        case c60c => simp
        case c60d => first | (rw [HPP.out]; done) | (rw [HPP.out]; omega) | omega
        case c60e => unfold maxLen; first | (rw [HPP.out]; done) | (rw [HPP.out]; omega) | omega
        case c60f => have := B.out.size; first | omega | (simp; omega) | (simp at this; simp; omega)
        intro v60 W60 hv hg hb
        have V60 := hid hv
        have B := hid (B.out.grown hg (by have := B.out.size; first | omega | (simp; omega) | (simp at this; simp; omega)) (fun k hk => ((VV.out).lt k hk).1))
        clear hv hg hb
        obtain ⟨A9, c9, ev9, _, _, _, _⟩ := V60.out.slice
        have e9 : v60 = .slice A9 (20 + on + (jj + 1)) c9 := by rw [ev9]; congr 1; simp [HPL.out] <;> omega
        subst e9
        clear ev9
        have V61 : Hid (Own .u8 5 W60 w1.heap.size (.slice A9 (20 + on + (jj + 1)) c9) (pre ++ List.replicate (jj + 1) 0)) := hid (by have h := V60.out; rw [List.replicate_succ']; first | exact h | (rw [← List.append_assoc]; exact h))
        clear V60 VL
        go_wp2
        go_roundw
        case rel => exact ⟨jj + 1, A9, c9, by omega, rfl, V61, B⟩
        case measure => show hh - (20 + on + (jj + 1)) < hh - (20 + on + jj); omega
      · obtain hjj : jj = hh - 20 - on := by omega
        have hlt2 : ¬ ((20 + on + jj : Nat) : Int) < hh := by omega
        have HH0 : Hid (pre ++ List.replicate jj 0 = hdr sv pid off lf pr true true fr to o dn 0) := hid (by rw [HHD.out, hjj])
        have hpl : (hdr sv pid off lf pr true true fr to o dn 0).length = 20 + on + jj := by rw [← HH0.out]; simp [HPL.out]
        rw [HH0.out] at VV
        clear hjj HH0
        obtain ⟨g, cap, e2⟩ := VV.out.some_form (by rw [hpl]; omega)
        rw [hpl] at e2
        injection e2 with e2 _ e3
        subst e2 e3
        have HSB : Hid (0 ≤ sm ∧ sm ≤ 65535) := hid (by
          rw [← HSU.out]
          have hw := VV.out.2
          have := oct.F_bd (oct.ws (hdr sv pid off lf pr true true fr to o dn 0)) (oct.ws_bd _ (fun z hz => u8Bd (hw z hz))).1
          unfold oct.sumF; omega)
        go_wp2_with fail
        refine (oct.sum2 _ (some ⟨g, 0, none⟩) (20 + on + jj) _ _ VV.out.rd (by omega)).mono ?_
        rintro x w70 ⟨rfl, m70, rfl⟩
        rw [HSU.out]
        have VV := hid (VV.out.drewN m70)
        have HQ1 := hid ((Q0.out.trans (Only.of_below (S := []) B.out)).drewN m70)
        obtain ⟨hs1, hs2⟩ := HSB.out
        have c2 := VV.out.cellD 10 (by omega)
        have f2 := VV.out.frozen 10
        have V4 := hid (VV.out.set 10 (sm / 256) (hlp.u8wf (by omega)))
        have c3 := V4.out.cellD 11 (by omega)
        have f3 := V4.out.frozen 11
        have V5 := hid (V4.out.set 11 (sm % 256) (hlp.u8wf (by omega)))
        have hlow : w.heap.size ≤ g := by have h1 := VV.out.base_le.1; omega
        have HQ2 := hid ((HQ1.out.setCell (p := ⟨g, 10, none⟩) (Or.inr hlow) (.int .u8 (sm / 256))).setCell (p := ⟨g, 11, none⟩) (Or.inr hlow) (.int .u8 (sm % 256)))
        have hi10 : (10 : Int) < ((20 + on + jj : Nat) : Int) := by omega
        have hi11 : (11 : Int) < ((20 + on + jj : Nat) : Int) := by omega
        go_wp2
        go_ret
        exact ⟨_, rfl, by rw [HSET.out]; exact V5.out.mono_base (by omega), HQ2.out⟩
end Go.Proofs.Ytekanilgeigddaa.ip
