/-
  Chapter 6 (ipv4): the document's own error of a packet, and its header, by a walk of each text. Conditions: none but those typed.
-/
import Derived.Test.YtngaolagifgfjaaIfE
import Derived.Test.YtngaolagifgfjaaRef6
namespace Go.Proofs.Ytngaolagifgfjaa.ip
set_option linter.unusedVariables false
set_option linter.unusedSimpArgs false
open Go.ChangeShapes Go.WideShapes Go.ChangeAt Go.RowKit Go.IntWalk Go.Lib
set_option maxRecDepth 100000 in
set_option maxHeartbeats 8000000 in
theorem may1 (w : World) (sv pid off lf pr : Int) (wh mo : Bool) (fr to : Int) (oA : Option Addr) (on oc : Nat) (dA : Option Addr) (dn dc : Nat) (o : List Int) (ho : Rd .u8 w oA on o) (hnc : on ≤ oc) (hcm : oc ≤ maxLen) (hn : on ≤ 100000) (hdn : dn ≤ 100000) : Calls Try.prog 31 #[.agg #[.int .i64 sv, .int .i64 pid, .bool wh, .bool mo, .int .i64 off, .int .i64 lf, .int .i64 pr, .int .u32 fr, .int .u32 to, .slice oA on oc, .slice dA dn dc]] w fun x w' => x = .returned (.int .i64 (chk sv pid off lf pr o dn)) ∧ Only [] w w' := by
  have HO := hid ho
  have HOL := hid ho.len
  clear ho
  have HBad : Hid (¬ Nums sv pid off lf pr → (1 : Int) = chk sv pid off lf pr o dn) := hid (fun h => by unfold chk; rw [if_neg h])
  have HGood : Hid (Nums sv pid off lf pr → chk sv pid off lf pr o dn = if 40 < o.length then 3 else if okO o = false then 3 else if 65535 - (hl o.length : Int) < off + dn then 5 else 0) := hid (fun h => by unfold chk; rw [if_pos h])
  have QB : Hid (Only [] w (w.alloc (.cells #[.int .i64 sv, .int .i64 pid, .bool wh, .bool mo, .int .i64 off, .int .i64 lf, .int .i64 pr, .int .u32 fr, .int .u32 to, .slice oA on oc, .slice dA dn dc] 26))) := hid ((Only.refl [] w).alloc _)
  have OB : Hid (Ob (w.alloc (.cells #[.int .i64 sv, .int .i64 pid, .bool wh, .bool mo, .int .i64 off, .int .i64 lf, .int .i64 pr, .int .u32 fr, .int .u32 to, .slice oA on oc, .slice dA dn dc] 26)) w.heap.size 26 #[.int .i64 sv, .int .i64 pid, .bool wh, .bool mo, .int .i64 off, .int .i64 lf, .int .i64 pr, .int .u32 fr, .int .u32 to, .slice oA on oc, .slice dA dn dc]) := hid (Ob.new _ _ _)
  have k0 := OB.out.cell 0; have k1 := OB.out.cell 1; have k2 := OB.out.cell 2; have k3 := OB.out.cell 3; have k4 := OB.out.cell 4; have k5 := OB.out.cell 5; have k6 := OB.out.cell 6; have k7 := OB.out.cell 7; have k8 := OB.out.cell 8; have k9 := OB.out.cell 9; have k10 := OB.out.cell 10
  go_enter Try.func31, Try.ntmps31
  by_cases q0 : sv < 0
  · have e0 : decide (sv < 0) = true := decide_eq_true q0
    have hr := hid (HBad.out (by unfold Nums; omega))
    go_wp2
    all_goals first | (exfalso; omega) | (go_ret; exact ⟨rInt hr.out, QB.out⟩)
  · have e0 : decide (sv < 0) = false := decide_eq_false q0
    by_cases q1 : 255 < sv
    · have e1 : decide (255 < sv) = true := decide_eq_true q1
      have hr := hid (HBad.out (by unfold Nums; omega))
      go_wp2
      all_goals first | (exfalso; omega) | (go_ret; exact ⟨rInt hr.out, QB.out⟩)
    · have e1 : decide (255 < sv) = false := decide_eq_false q1
      by_cases q2 : lf < 0
      · have e2 : decide (lf < 0) = true := decide_eq_true q2
        have hr := hid (HBad.out (by unfold Nums; omega))
        go_wp2
        all_goals first | (exfalso; omega) | (go_ret; exact ⟨rInt hr.out, QB.out⟩)
      · have e2 : decide (lf < 0) = false := decide_eq_false q2
        by_cases q3 : 255 < lf
        · have e3 : decide (255 < lf) = true := decide_eq_true q3
          have hr := hid (HBad.out (by unfold Nums; omega))
          go_wp2
          all_goals first | (exfalso; omega) | (go_ret; exact ⟨rInt hr.out, QB.out⟩)
        · have e3 : decide (255 < lf) = false := decide_eq_false q3
          by_cases q4 : pr < 0
          · have e4 : decide (pr < 0) = true := decide_eq_true q4
            have hr := hid (HBad.out (by unfold Nums; omega))
            go_wp2
            all_goals first | (exfalso; omega) | (go_ret; exact ⟨rInt hr.out, QB.out⟩)
          · have e4 : decide (pr < 0) = false := decide_eq_false q4
            by_cases q5 : 255 < pr
            · have e5 : decide (255 < pr) = true := decide_eq_true q5
              have hr := hid (HBad.out (by unfold Nums; omega))
              go_wp2
              all_goals first | (exfalso; omega) | (go_ret; exact ⟨rInt hr.out, QB.out⟩)
            · have e5 : decide (255 < pr) = false := decide_eq_false q5
              by_cases q6 : pid < 0
              · have e6 : decide (pid < 0) = true := decide_eq_true q6
                have hr := hid (HBad.out (by unfold Nums; omega))
                go_wp2
                all_goals first | (exfalso; omega) | (go_ret; exact ⟨rInt hr.out, QB.out⟩)
              · have e6 : decide (pid < 0) = false := decide_eq_false q6
                by_cases q7 : 65535 < pid
                · have e7 : decide (65535 < pid) = true := decide_eq_true q7
                  have hr := hid (HBad.out (by unfold Nums; omega))
                  go_wp2
                  all_goals first | (exfalso; omega) | (go_ret; exact ⟨rInt hr.out, QB.out⟩)
                · have e7 : decide (65535 < pid) = false := decide_eq_false q7
                  by_cases q8 : off < 0
                  · have e8 : decide (off < 0) = true := decide_eq_true q8
                    have hr := hid (HBad.out (by unfold Nums; omega))
                    go_wp2
                    all_goals first | (exfalso; omega) | (go_ret; exact ⟨rInt hr.out, QB.out⟩)
                  · have e8 : decide (off < 0) = false := decide_eq_false q8
                    by_cases q9 : 65528 < off
                    · have e9 : decide (65528 < off) = true := decide_eq_true q9
                      have hr := hid (HBad.out (by unfold Nums; omega))
                      go_wp2
                      all_goals first | (exfalso; omega) | (go_ret; exact ⟨rInt hr.out, QB.out⟩)
                    · have e9 : decide (65528 < off) = false := decide_eq_false q9
                      by_cases hm : off % 8 = 0
                      · have d1 : (off % 8 != 0) = false := by simpa using hm
                        have HG := hid (HGood.out (by unfold Nums; omega))
                        by_cases ho : 40 < on
                        · have d2 : decide (40 < (on : Int)) = true := decide_eq_true (by omega)
                          have hr : Hid ((3 : Int) = chk sv pid off lf pr o dn) := hid (by rw [HG.out, if_pos (by rw [HOL.out]; exact ho)])
                          go_wp2
                          go_ret
                          exact ⟨rInt hr.out, QB.out⟩
                        · have ho2 : ¬ (40 < (on : Int)) := by omega
                          cases hok : okO o with
                          | false =>
                            have hr : Hid ((3 : Int) = chk sv pid off lf pr o dn) := hid (by rw [HG.out, if_neg (by rw [HOL.out]; exact ho), if_pos hok])
                            have HWF := fun W (h : Rd .u8 W oA on o) => op1 W oA on oc o false h hnc hcm (by omega) (by rw [← hok]; exact ofs_okO o)
                            have HWF := hid HWF
                            clear hok hcm
                            go_wp2_with fail
                            refine (HWF.out _ (HO.out.only_nil QB.out)).mono ?_
                            rintro x w' ⟨rfl, rfl⟩
                            go_wp2
                            go_ret
                            exact ⟨rInt hr.out, QB.out⟩
                          | true =>
                            have HG2 : Hid (chk sv pid off lf pr o dn = if 65535 - (hl on : Int) < off + dn then 5 else 0) := hid (by rw [HG.out, if_neg (by rw [HOL.out]; exact ho), if_neg (by rw [hok]; decide), HOL.out])
                            have HWF := fun W (h : Rd .u8 W oA on o) => op1 W oA on oc o true h hnc hcm (by omega) (by rw [← hok]; exact ofs_okO o)
                            have HWF := hid HWF
                            have hhl := hl_bd on
                            clear hok hcm HG
                            go_wp2_with fail
                            refine (HWF.out _ (HO.out.only_nil QB.out)).mono ?_
                            rintro x w9 ⟨rfl, rfl⟩
                            go_wp2_with fail
                            refine (head2 _ sv pid off lf pr wh mo fr to oA on oc dA dn dc (by omega)).mono ?_
                            rintro x w2 ⟨rfl, q2⟩
                            obtain ⟨hhn, hhe⟩ : ∃ q : Nat, q = hl on := ⟨_, rfl⟩
                            rw [← hhe] at HG2 hhl
                            rw [← hhe]
                            clear hhe k0 k1 k2 k3 k4 k5 k6 k7 k8 k9 k10
                            have OB := hid (OB.out.only q2 (by simp)); have QB := hid (QB.out.trans q2); clear q2
                            have k0 := OB.out.cell 0; have k1 := OB.out.cell 1; have k2 := OB.out.cell 2; have k3 := OB.out.cell 3; have k4 := OB.out.cell 4; have k5 := OB.out.cell 5; have k6 := OB.out.cell 6; have k7 := OB.out.cell 7; have k8 := OB.out.cell 8; have k9 := OB.out.cell 9; have k10 := OB.out.cell 10
                            have g1 : IntKind.i64.wrap (65535 - (hhn : Int)) = 65535 - hhn := i64_in _ (by omega)
                            have g2 : IntKind.i64.wrap (off + (dn : Int)) = off + dn := i64_in _ (by omega)
                            have G1 := hid g1; have G2 := hid g2; clear g1 g2
                            by_cases h4 : 65535 - (hhn : Int) < dn
                            · have hr : Hid ((5 : Int) = chk sv pid off lf pr o dn) := hid (by rw [HG2.out, if_pos (by omega)])
                              go_wp2
                              all_goals first | (exfalso; omega) | (go_ret; exact ⟨rInt hr.out, QB.out⟩)
                            · by_cases h5 : 65535 - (hhn : Int) < off + dn
                              · have hr : Hid ((5 : Int) = chk sv pid off lf pr o dn) := hid (by rw [HG2.out, if_pos h5])
                                go_wp2
                                all_goals first | (exfalso; omega) | (go_ret; exact ⟨rInt hr.out, QB.out⟩)
                              · have hr : Hid ((0 : Int) = chk sv pid off lf pr o dn) := hid (by rw [HG2.out, if_neg h5])
                                go_wp2
                                all_goals first | (exfalso; omega) | (go_ret; exact ⟨rInt hr.out, QB.out⟩)
                      · have d1 : (off % 8 != 0) = true := by simpa using hm
                        have hr := hid (HBad.out (by unfold Nums; omega))
                        go_wp2
                        all_goals first | (exfalso; omega) | (go_ret; exact ⟨rInt hr.out, QB.out⟩)
theorem hdr_wf (sv pid off lf pr : Int) (wh mo : Bool) (fr to : Int) (o : List Int) (dn : Nat) (s : Int) (ho : ∀ z ∈ o, (Lit.int .u8 z).wf = true) : ∀ z ∈ hdr sv pid off lf pr wh mo fr to o dn s, (Lit.int .u8 z).wf = true := by
  intro z hz
  simp only [hdr, b2, b4, List.mem_append, List.mem_cons, List.not_mem_nil, or_false] at hz
  rcases hz with ((((((((((h | h) | h) | h) | h) | h) | h) | h) | h) | h) | h)
  all_goals first
    | exact ho z h
    | (rw [List.eq_of_mem_replicate h]; exact hlp.u8wf (by omega))
    | (apply hlp.u8wf; rcases h with rfl | rfl | rfl | rfl <;> omega)
    | (apply hlp.u8wf; rcases h with rfl | rfl <;> omega)
    | (apply hlp.u8wf; subst h; omega)
end Go.Proofs.Ytngaolagifgfjaa.ip
