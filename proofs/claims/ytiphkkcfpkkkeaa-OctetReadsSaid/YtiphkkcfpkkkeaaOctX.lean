/-
  Chapter 1 (octet): what is read is what stands there, the law by a walk of its text. Conditions: none but those typed.
-/
import Derived.Test.YtiphkkcfpkkkeaaOctU
import Derived.Test.YtiphkkcfpkkkeaaSum1
import Derived.Test.YtiphkkcfpkkkeaaRdr
namespace Go.Proofs.Ytiphkkcfpkkkeaa.oct
set_option linter.unusedVariables false
set_option linter.unusedSimpArgs false
open Go.ChangeShapes Go.WideShapes Go.ChangeAt Go.RowKit Go.IntWalk Go.Lib
/-- Where a reader stands: alive, at a; or dead. -/
def RSt (w : World) (base top r e p : Nat) (pl : List Int) (a : Nat) (d : Bool) : Prop := ∃ er lst, rdr.Rdr w base top r e p er lst ∧ ((d = false ∧ er = 0 ∧ lst = pl.drop a) ∨ (d = true ∧ er = 2))
set_option maxRecDepth 100000 in
set_option maxHeartbeats 40000000 in
theorem reads (w : World) (A0 : Option Addr) (m c0 : Nat) (pl : List Int) (A : Option Addr) (len c : Nat) (K V : Nat → Int) (RA : Nat → Option Addr) (RN RC : Nat → Nat) (P : Nat → List Int) (hp : Rd .u8 w A0 m pl) (hp0 : A0 = none → c0 = 0) (hmc : m ≤ c0) (h : Steps3 w A len K V RA RN RC P) (hlen : len ≤ 140737488351232) :
    Calls Try.prog 4 #[.slice A0 m c0, .slice A len c] w fun e w' => e = .returned (.bool true) ∧ Only [] w w' := by
  have H := hid h; clear h
  have HP := hid hp; have HPL := hid hp.len; clear hp
  have HP0 := hid hp0; clear hp0
  by_cases hm : m ≤ 4000
  · go_enter Try.func4, Try.ntmps4
    go_wp2_with fail
    refine (heavy1 w A len c K V RA RN RC P H.out hlen).mono ?_
    rintro e w' ⟨t, rfl, ht, rfl⟩
    cases t with
    | true =>
      go_wp2
      go_ret
      exact ⟨rfl, Only.refl _ _⟩
    | false =>
      clear ht
      go_wp2_with fail
      refine (rdr.new1 w A0 m c0 pl HP.out HP0.out (by omega)).mono ?_
      rintro x w2 ⟨r, e, p, rfl, h2, o2⟩
      have HB0 := hid o2; clear o2
      have hlo := h2.lows
      obtain ⟨hlo1, hlo2, _, _⟩ := hlo
      have RS0 : Hid (RSt w2 w.heap.size w2.heap.size r e p pl 0 false) := hid ⟨0, pl, h2, .inl ⟨rfl, rfl, rfl⟩⟩
      clear h2
      go_wp2_with fail
      go_loopw [6, 7, 8] (fun at' dd i wr => ∃ (j a : Nat) (d : Bool), j ≤ len ∧ a ≤ m ∧ i = .int .i64 j ∧ at' = .int .i64 a ∧ dd = .bool d ∧ Hid (RSt wr w.heap.size w2.heap.size r e p pl a d) ∧ Hid (Only [] w wr)) (fun _ _ i _ => len - (intOf i).toNat)
      case atStart => exact ⟨0, 0, false, by omega, by omega, rfl, rfl, rfl, RS0, HB0⟩
      case round =>
        obtain ⟨j, a, d, hj, ha, rfl, rfl, rfl, HR, HB⟩ := hrel
        clear RS0 HB0
        by_cases hlt : j < len
        · obtain ⟨b, off, rfl, hb, hc⟩ := (H.out.only_nil HB.out).cells (by omega)
          obtain ⟨q0, q1, _⟩ := hc j hlt
          clear hc
          by_cases h1 : K j = 1
          · rw [h1] at q0
            clear h1
            by_cases hc2 : (m : Int) - (a : Int) < 1
            · obtain ⟨er, lst, hRD, hd⟩ := HR.out
              have RD := hid hRD; clear hRD
              rcases hd with ⟨rfl, rfl, rfl⟩ | ⟨rfl, rfl⟩
              · go_wp2_with fail
                refine (rdr.byte_bad _ _ _ r e p _ _ RD.out (.inr ⟨rfl, by simp; rw [HPL.out]; omega⟩)).mono ?_
                rintro x w5 ⟨rfl, ⟨l5, h5⟩, OO⟩
                have RD := hid h5; have HB := hid (HB.out.fresh OO (by simp; omega)); clear h5 OO q0 q1
                go_wp2_with fail
                refine (rdr.left_bad _ _ _ r e p _ RD.out).mono ?_
                rintro x w7 ⟨rfl, ⟨l7, h7⟩, OO⟩
                have RD := hid h7; have HB := hid (HB.out.fresh OO (by simp; omega)); clear h7 OO
                go_wp2_with fail
                refine (rdr.err_bad _ _ _ r e p _ RD.out).mono ?_
                rintro x w8 ⟨rfl, ⟨l8, h8⟩, OO⟩
                have RD := hid h8; have HB := hid (HB.out.fresh OO (by simp; omega)); clear h8 OO
                go_wp2_with fail
                refine (rdr.err_bad _ _ _ r e p _ RD.out).mono ?_
                rintro x w9 ⟨rfl, ⟨l9, h9⟩, OO⟩
                have RD := hid h9; have HB := hid (HB.out.fresh OO (by simp; omega)); clear h9 OO
                go_wp2
                go_roundw
                case rel => exact ⟨j + 1, a, true, by omega, ha, by go_num, rfl, rfl, hid ⟨2, _, RD.out, .inr ⟨rfl, rfl⟩⟩, HB⟩
                case measure => simp [intOf]; omega
              · go_wp2_with fail
                refine (rdr.byte_bad _ _ _ r e p _ _ RD.out (.inl rfl)).mono ?_
                rintro x w5 ⟨rfl, ⟨l5, h5⟩, OO⟩
                have RD := hid h5; have HB := hid (HB.out.fresh OO (by simp; omega)); clear h5 OO q0 q1
                go_wp2_with fail
                refine (rdr.left_bad _ _ _ r e p _ RD.out).mono ?_
                rintro x w7 ⟨rfl, ⟨l7, h7⟩, OO⟩
                have RD := hid h7; have HB := hid (HB.out.fresh OO (by simp; omega)); clear h7 OO
                go_wp2_with fail
                refine (rdr.err_bad _ _ _ r e p _ RD.out).mono ?_
                rintro x w8 ⟨rfl, ⟨l8, h8⟩, OO⟩
                have RD := hid h8; have HB := hid (HB.out.fresh OO (by simp; omega)); clear h8 OO
                go_wp2_with fail
                refine (rdr.err_bad _ _ _ r e p _ RD.out).mono ?_
                rintro x w9 ⟨rfl, ⟨l9, h9⟩, OO⟩
                have RD := hid h9; have HB := hid (HB.out.fresh OO (by simp; omega)); clear h9 OO
                go_wp2
                go_roundw
                case rel => exact ⟨j + 1, a, true, by omega, ha, by go_num, rfl, rfl, hid ⟨2, _, RD.out, .inr ⟨rfl, rfl⟩⟩, HB⟩
                case measure => simp [intOf]; omega
            · obtain ⟨er, lst, hRD, hd⟩ := HR.out
              have RD := hid hRD; clear hRD
              rcases hd with ⟨rfl, rfl, rfl⟩ | ⟨rfl, rfl⟩
              · skip
                skip
                skip
                have hfit : a + 1 ≤ m := by omega
                obtain ⟨b0, off0, rfl, hb0, _⟩ := HP.out.at_ (by omega)
                have RW := hid ((HP.out.drop a (by omega)).take 1 (by omega))
                have hrd := RW.out.only_nil HB.out
                have hcap : (a : Int) + 1 ≤ c0 := by omega
                have hne : ¬ c0 = a := by omega
                have HWF : Hid (∀ z ∈ (pl.drop a).take 1, 0 ≤ z ∧ z ≤ 255) := hid (fun z hz => u8Bd (hrd.wf z hz))
                have HGD : Hid (∀ i, i < 1 → (Lit.int .u8 (((pl.drop a).take 1).getD i 0)).wf = true) := hid (fun i hi => hrd.getD_wf i hi)
                have HTL : Hid (((pl.drop a).take 1).length = 1) := hid hrd.len
                have HCL : Hid (∀ i, i < 1 → wr.cell? ⟨b0, off0 + a + i, none⟩ = some (.int .u8 (((pl.drop a).take 1).getD i 0))) := hid (fun i hi => hrd.cellD i hi)
                clear hrd
                generalize hT : (pl.drop a).take 1 = t at HWF HGD HTL HCL RW
                have HT0 := hid hT; clear hT
                go_wp2_with fail
                go_loop [10, 12] (fun v i => ∃ (k : Nat), k ≤ 1 ∧ k ≤ 4 ∧ i = .int .i64 k ∧ v = .int .u32 (rdr.num (t.take k))) (fun _ i => 4 - (intOf i).toNat)
                case atStart => exact ⟨0, by omega, by omega, rfl, by simp [rdr.num]⟩
                case round =>
                  obtain ⟨k, hk, hk4, rfl, rfl⟩ := hrel
                  by_cases hlt2 : k < 1 ∧ k < 4
                  · obtain ⟨hl1, hl2⟩ := hlt2
                    have qq := HCL.out k hl1
                    have w0 := u8Bd (HGD.out k hl1)
                    have hnb := rdr.num_bd (t.take k) (by rw [List.length_take]; omega) (fun z hz => HWF.out z (List.mem_of_mem_take hz))
                    have hs : t.take (k + 1) = t.take k ++ [t.getD k 0] := by
                      have hjl : k < t.length := by rw [HTL.out]; exact hl1
                      rw [List.take_succ_eq_append_getElem hjl, List.getD_eq_getElem?_getD, List.getElem?_eq_getElem hjl]
                      rfl
                    have HN : Hid (rdr.num (t.take (k + 1)) = rdr.num (t.take k) * 256 + t.getD k 0) := hid (by rw [hs, rdr.num_snoc])
                    clear hs
                    generalize t.getD k 0 = y at *
                    generalize rdr.num (t.take k) = v at *
                    have hor : bits .or .u32 (v * 256) y = v * 256 + y := u32_or_mul v y 8 256 (by decide) hnb.1 w0.1 (by omega) (by omega)
                    have hl1' : (k : Int) < 1 := by omega
                    go_wp2
                    go_round
                    case rel => exact ⟨k + 1, by omega, by omega, by go_num, by rw [HN.out]⟩
                    case measure => simp [intOf]; omega
                  · obtain rfl : k = 1 := by omega
                    have HTT : Hid (t.take 1 = t) := hid (List.take_of_length_le (by rw [HTL.out]; omega))
                    rw [HTT.out]
                    have hnb := rdr.num4_bd t (by rw [HTL.out]; omega) HWF.out
                    have RD := hid (show rdr.Rdr wr _ _ r e p 0 (pl.drop a) from RD.out)
                    go_wp2_with fail
                    refine (rdr.byte_ok _ _ _ r e p _ RD.out (by simp; rw [HPL.out]; omega)).mono ?_
                    rintro x w5 ⟨rfl, HRR, OO⟩
                    rw [HT0.out]
                    have RD := hid (show rdr.Rdr _ _ _ r e p 0 (pl.drop (a + 1)) from by simpa [List.drop_drop] using HRR); have HB := hid (HB.out.fresh OO (by simp; omega)); clear HRR OO q0 q1
                    generalize rdr.num t = nv at *
                    go_wp2_with fail
                    refine (rdr.left_ok _ _ _ r e p _ RD.out).mono ?_
                    rintro x w7 ⟨rfl, HRR, OO⟩
                    rw [show ((pl.drop (a + 1)).length : Int) = (m : Int) - ((a : Int) + 1) from by simp; rw [HPL.out]; omega]
                    have RD := hid HRR; have HB := hid (HB.out.fresh OO (by simp; omega)); clear HRR OO
                    go_wp2_with fail
                    refine (rdr.err_ok _ _ _ r e p _ RD.out).mono ?_
                    rintro x w8 ⟨rfl, HRR, OO⟩
                    have RD := hid HRR; have HB := hid (HB.out.fresh OO (by simp; omega)); clear HRR OO
                    go_wp2
                    go_roundw
                    case rel => exact ⟨j + 1, a + 1, false, by omega, hfit, by go_num, by first | go_num | simp, rfl, hid ⟨0, _, RD.out, .inl ⟨rfl, rfl, rfl⟩⟩, HB⟩
                    case measure => simp [intOf]; omega
              · go_wp2_with fail
                refine (rdr.byte_bad _ _ _ r e p _ _ RD.out (.inl rfl)).mono ?_
                rintro x w5 ⟨rfl, ⟨l5, h5⟩, OO⟩
                have RD := hid h5; have HB := hid (HB.out.fresh OO (by simp; omega)); clear h5 OO q0 q1
                go_wp2_with fail
                refine (rdr.left_bad _ _ _ r e p _ RD.out).mono ?_
                rintro x w7 ⟨rfl, ⟨l7, h7⟩, OO⟩
                have RD := hid h7; have HB := hid (HB.out.fresh OO (by simp; omega)); clear h7 OO
                go_wp2_with fail
                refine (rdr.err_bad _ _ _ r e p _ RD.out).mono ?_
                rintro x w8 ⟨rfl, ⟨l8, h8⟩, OO⟩
                have RD := hid h8; have HB := hid (HB.out.fresh OO (by simp; omega)); clear h8 OO
                go_wp2_with fail
                refine (rdr.err_bad _ _ _ r e p _ RD.out).mono ?_
                rintro x w9 ⟨rfl, ⟨l9, h9⟩, OO⟩
                have RD := hid h9; have HB := hid (HB.out.fresh OO (by simp; omega)); clear h9 OO
                go_wp2
                go_roundw
                case rel => exact ⟨j + 1, a, true, by omega, ha, by go_num, rfl, rfl, hid ⟨2, _, RD.out, .inr ⟨rfl, rfl⟩⟩, HB⟩
                case measure => simp [intOf]; omega
          · by_cases h2 : K j = 2
            · rw [h2] at q0
              clear h1 h2
              by_cases hc2 : (m : Int) - (a : Int) < 2
              · obtain ⟨er, lst, hRD, hd⟩ := HR.out
                have RD := hid hRD; clear hRD
                rcases hd with ⟨rfl, rfl, rfl⟩ | ⟨rfl, rfl⟩
                · go_wp2_with fail
                  refine (rdr.two_bad _ _ _ r e p _ _ RD.out (.inr ⟨rfl, by simp; rw [HPL.out]; omega⟩)).mono ?_
                  rintro x w5 ⟨rfl, ⟨l5, h5⟩, OO⟩
                  have RD := hid h5; have HB := hid (HB.out.fresh OO (by simp; omega)); clear h5 OO q0 q1
                  go_wp2_with fail
                  refine (rdr.left_bad _ _ _ r e p _ RD.out).mono ?_
                  rintro x w7 ⟨rfl, ⟨l7, h7⟩, OO⟩
                  have RD := hid h7; have HB := hid (HB.out.fresh OO (by simp; omega)); clear h7 OO
                  go_wp2_with fail
                  refine (rdr.err_bad _ _ _ r e p _ RD.out).mono ?_
                  rintro x w8 ⟨rfl, ⟨l8, h8⟩, OO⟩
                  have RD := hid h8; have HB := hid (HB.out.fresh OO (by simp; omega)); clear h8 OO
                  go_wp2_with fail
                  refine (rdr.err_bad _ _ _ r e p _ RD.out).mono ?_
                  rintro x w9 ⟨rfl, ⟨l9, h9⟩, OO⟩
                  have RD := hid h9; have HB := hid (HB.out.fresh OO (by simp; omega)); clear h9 OO
                  go_wp2
                  go_roundw
                  case rel => exact ⟨j + 1, a, true, by omega, ha, by go_num, rfl, rfl, hid ⟨2, _, RD.out, .inr ⟨rfl, rfl⟩⟩, HB⟩
                  case measure => simp [intOf]; omega
                · go_wp2_with fail
                  refine (rdr.two_bad _ _ _ r e p _ _ RD.out (.inl rfl)).mono ?_
                  rintro x w5 ⟨rfl, ⟨l5, h5⟩, OO⟩
                  have RD := hid h5; have HB := hid (HB.out.fresh OO (by simp; omega)); clear h5 OO q0 q1
                  go_wp2_with fail
                  refine (rdr.left_bad _ _ _ r e p _ RD.out).mono ?_
                  rintro x w7 ⟨rfl, ⟨l7, h7⟩, OO⟩
                  have RD := hid h7; have HB := hid (HB.out.fresh OO (by simp; omega)); clear h7 OO
                  go_wp2_with fail
                  refine (rdr.err_bad _ _ _ r e p _ RD.out).mono ?_
                  rintro x w8 ⟨rfl, ⟨l8, h8⟩, OO⟩
                  have RD := hid h8; have HB := hid (HB.out.fresh OO (by simp; omega)); clear h8 OO
                  go_wp2_with fail
                  refine (rdr.err_bad _ _ _ r e p _ RD.out).mono ?_
                  rintro x w9 ⟨rfl, ⟨l9, h9⟩, OO⟩
                  have RD := hid h9; have HB := hid (HB.out.fresh OO (by simp; omega)); clear h9 OO
                  go_wp2
                  go_roundw
                  case rel => exact ⟨j + 1, a, true, by omega, ha, by go_num, rfl, rfl, hid ⟨2, _, RD.out, .inr ⟨rfl, rfl⟩⟩, HB⟩
                  case measure => simp [intOf]; omega
              · obtain ⟨er, lst, hRD, hd⟩ := HR.out
                have RD := hid hRD; clear hRD
                rcases hd with ⟨rfl, rfl, rfl⟩ | ⟨rfl, rfl⟩
                · skip
                  skip
                  skip
                  have hfit : a + 2 ≤ m := by omega
                  obtain ⟨b0, off0, rfl, hb0, _⟩ := HP.out.at_ (by omega)
                  have RW := hid ((HP.out.drop a (by omega)).take 2 (by omega))
                  have hrd := RW.out.only_nil HB.out
                  have hcap : (a : Int) + 2 ≤ c0 := by omega
                  have hne : ¬ c0 = a := by omega
                  have HWF : Hid (∀ z ∈ (pl.drop a).take 2, 0 ≤ z ∧ z ≤ 255) := hid (fun z hz => u8Bd (hrd.wf z hz))
                  have HGD : Hid (∀ i, i < 2 → (Lit.int .u8 (((pl.drop a).take 2).getD i 0)).wf = true) := hid (fun i hi => hrd.getD_wf i hi)
                  have HTL : Hid (((pl.drop a).take 2).length = 2) := hid hrd.len
                  have HCL : Hid (∀ i, i < 2 → wr.cell? ⟨b0, off0 + a + i, none⟩ = some (.int .u8 (((pl.drop a).take 2).getD i 0))) := hid (fun i hi => hrd.cellD i hi)
                  clear hrd
                  generalize hT : (pl.drop a).take 2 = t at HWF HGD HTL HCL RW
                  have HT0 := hid hT; clear hT
                  go_wp2_with fail
                  go_loop [10, 12] (fun v i => ∃ (k : Nat), k ≤ 2 ∧ k ≤ 4 ∧ i = .int .i64 k ∧ v = .int .u32 (rdr.num (t.take k))) (fun _ i => 4 - (intOf i).toNat)
                  case atStart => exact ⟨0, by omega, by omega, rfl, by simp [rdr.num]⟩
                  case round =>
                    obtain ⟨k, hk, hk4, rfl, rfl⟩ := hrel
                    by_cases hlt2 : k < 2 ∧ k < 4
                    · obtain ⟨hl1, hl2⟩ := hlt2
                      have qq := HCL.out k hl1
                      have w0 := u8Bd (HGD.out k hl1)
                      have hnb := rdr.num_bd (t.take k) (by rw [List.length_take]; omega) (fun z hz => HWF.out z (List.mem_of_mem_take hz))
                      have hs : t.take (k + 1) = t.take k ++ [t.getD k 0] := by
                        have hjl : k < t.length := by rw [HTL.out]; exact hl1
                        rw [List.take_succ_eq_append_getElem hjl, List.getD_eq_getElem?_getD, List.getElem?_eq_getElem hjl]
                        rfl
                      have HN : Hid (rdr.num (t.take (k + 1)) = rdr.num (t.take k) * 256 + t.getD k 0) := hid (by rw [hs, rdr.num_snoc])
                      clear hs
                      generalize t.getD k 0 = y at *
                      generalize rdr.num (t.take k) = v at *
                      have hor : bits .or .u32 (v * 256) y = v * 256 + y := u32_or_mul v y 8 256 (by decide) hnb.1 w0.1 (by omega) (by omega)
                      have hl1' : (k : Int) < 2 := by omega
                      go_wp2
                      go_round
                      case rel => exact ⟨k + 1, by omega, by omega, by go_num, by rw [HN.out]⟩
                      case measure => simp [intOf]; omega
                    · obtain rfl : k = 2 := by omega
                      have HTT : Hid (t.take 2 = t) := hid (List.take_of_length_le (by rw [HTL.out]; omega))
                      rw [HTT.out]
                      have hnb := rdr.num4_bd t (by rw [HTL.out]; omega) HWF.out
                      have RD := hid (show rdr.Rdr wr _ _ r e p 0 (pl.drop a) from RD.out)
                      go_wp2_with fail
                      refine (rdr.two_ok _ _ _ r e p _ RD.out (by simp; rw [HPL.out]; omega)).mono ?_
                      rintro x w5 ⟨rfl, HRR, OO⟩
                      rw [HT0.out]
                      have RD := hid (show rdr.Rdr _ _ _ r e p 0 (pl.drop (a + 2)) from by simpa [List.drop_drop] using HRR); have HB := hid (HB.out.fresh OO (by simp; omega)); clear HRR OO q0 q1
                      generalize rdr.num t = nv at *
                      go_wp2_with fail
                      refine (rdr.left_ok _ _ _ r e p _ RD.out).mono ?_
                      rintro x w7 ⟨rfl, HRR, OO⟩
                      rw [show ((pl.drop (a + 2)).length : Int) = (m : Int) - ((a : Int) + 2) from by simp; rw [HPL.out]; omega]
                      have RD := hid HRR; have HB := hid (HB.out.fresh OO (by simp; omega)); clear HRR OO
                      go_wp2_with fail
                      refine (rdr.err_ok _ _ _ r e p _ RD.out).mono ?_
                      rintro x w8 ⟨rfl, HRR, OO⟩
                      have RD := hid HRR; have HB := hid (HB.out.fresh OO (by simp; omega)); clear HRR OO
                      go_wp2
                      go_roundw
                      case rel => exact ⟨j + 1, a + 2, false, by omega, hfit, by go_num, by first | go_num | simp, rfl, hid ⟨0, _, RD.out, .inl ⟨rfl, rfl, rfl⟩⟩, HB⟩
                      case measure => simp [intOf]; omega
                · go_wp2_with fail
                  refine (rdr.two_bad _ _ _ r e p _ _ RD.out (.inl rfl)).mono ?_
                  rintro x w5 ⟨rfl, ⟨l5, h5⟩, OO⟩
                  have RD := hid h5; have HB := hid (HB.out.fresh OO (by simp; omega)); clear h5 OO q0 q1
                  go_wp2_with fail
                  refine (rdr.left_bad _ _ _ r e p _ RD.out).mono ?_
                  rintro x w7 ⟨rfl, ⟨l7, h7⟩, OO⟩
                  have RD := hid h7; have HB := hid (HB.out.fresh OO (by simp; omega)); clear h7 OO
                  go_wp2_with fail
                  refine (rdr.err_bad _ _ _ r e p _ RD.out).mono ?_
                  rintro x w8 ⟨rfl, ⟨l8, h8⟩, OO⟩
                  have RD := hid h8; have HB := hid (HB.out.fresh OO (by simp; omega)); clear h8 OO
                  go_wp2_with fail
                  refine (rdr.err_bad _ _ _ r e p _ RD.out).mono ?_
                  rintro x w9 ⟨rfl, ⟨l9, h9⟩, OO⟩
                  have RD := hid h9; have HB := hid (HB.out.fresh OO (by simp; omega)); clear h9 OO
                  go_wp2
                  go_roundw
                  case rel => exact ⟨j + 1, a, true, by omega, ha, by go_num, rfl, rfl, hid ⟨2, _, RD.out, .inr ⟨rfl, rfl⟩⟩, HB⟩
                  case measure => simp [intOf]; omega
            · by_cases h4 : K j = 4
              · rw [h4] at q0
                clear h1 h2 h4
                by_cases hc2 : (m : Int) - (a : Int) < 4
                · obtain ⟨er, lst, hRD, hd⟩ := HR.out
                  have RD := hid hRD; clear hRD
                  rcases hd with ⟨rfl, rfl, rfl⟩ | ⟨rfl, rfl⟩
                  · go_wp2_with fail
                    refine (rdr.four_bad _ _ _ r e p _ _ RD.out (.inr ⟨rfl, by simp; rw [HPL.out]; omega⟩)).mono ?_
                    rintro x w5 ⟨rfl, ⟨l5, h5⟩, OO⟩
                    have RD := hid h5; have HB := hid (HB.out.fresh OO (by simp; omega)); clear h5 OO q0 q1
                    go_wp2_with fail
                    refine (rdr.left_bad _ _ _ r e p _ RD.out).mono ?_
                    rintro x w7 ⟨rfl, ⟨l7, h7⟩, OO⟩
                    have RD := hid h7; have HB := hid (HB.out.fresh OO (by simp; omega)); clear h7 OO
                    go_wp2_with fail
                    refine (rdr.err_bad _ _ _ r e p _ RD.out).mono ?_
                    rintro x w8 ⟨rfl, ⟨l8, h8⟩, OO⟩
                    have RD := hid h8; have HB := hid (HB.out.fresh OO (by simp; omega)); clear h8 OO
                    go_wp2_with fail
                    refine (rdr.err_bad _ _ _ r e p _ RD.out).mono ?_
                    rintro x w9 ⟨rfl, ⟨l9, h9⟩, OO⟩
                    have RD := hid h9; have HB := hid (HB.out.fresh OO (by simp; omega)); clear h9 OO
                    go_wp2
                    go_roundw
                    case rel => exact ⟨j + 1, a, true, by omega, ha, by go_num, rfl, rfl, hid ⟨2, _, RD.out, .inr ⟨rfl, rfl⟩⟩, HB⟩
                    case measure => simp [intOf]; omega
                  · go_wp2_with fail
                    refine (rdr.four_bad _ _ _ r e p _ _ RD.out (.inl rfl)).mono ?_
                    rintro x w5 ⟨rfl, ⟨l5, h5⟩, OO⟩
                    have RD := hid h5; have HB := hid (HB.out.fresh OO (by simp; omega)); clear h5 OO q0 q1
                    go_wp2_with fail
                    refine (rdr.left_bad _ _ _ r e p _ RD.out).mono ?_
                    rintro x w7 ⟨rfl, ⟨l7, h7⟩, OO⟩
                    have RD := hid h7; have HB := hid (HB.out.fresh OO (by simp; omega)); clear h7 OO
                    go_wp2_with fail
                    refine (rdr.err_bad _ _ _ r e p _ RD.out).mono ?_
                    rintro x w8 ⟨rfl, ⟨l8, h8⟩, OO⟩
                    have RD := hid h8; have HB := hid (HB.out.fresh OO (by simp; omega)); clear h8 OO
                    go_wp2_with fail
                    refine (rdr.err_bad _ _ _ r e p _ RD.out).mono ?_
                    rintro x w9 ⟨rfl, ⟨l9, h9⟩, OO⟩
                    have RD := hid h9; have HB := hid (HB.out.fresh OO (by simp; omega)); clear h9 OO
                    go_wp2
                    go_roundw
                    case rel => exact ⟨j + 1, a, true, by omega, ha, by go_num, rfl, rfl, hid ⟨2, _, RD.out, .inr ⟨rfl, rfl⟩⟩, HB⟩
                    case measure => simp [intOf]; omega
                · obtain ⟨er, lst, hRD, hd⟩ := HR.out
                  have RD := hid hRD; clear hRD
                  rcases hd with ⟨rfl, rfl, rfl⟩ | ⟨rfl, rfl⟩
                  · skip
                    skip
                    skip
                    have hfit : a + 4 ≤ m := by omega
                    obtain ⟨b0, off0, rfl, hb0, _⟩ := HP.out.at_ (by omega)
                    have RW := hid ((HP.out.drop a (by omega)).take 4 (by omega))
                    have hrd := RW.out.only_nil HB.out
                    have hcap : (a : Int) + 4 ≤ c0 := by omega
                    have hne : ¬ c0 = a := by omega
                    have HWF : Hid (∀ z ∈ (pl.drop a).take 4, 0 ≤ z ∧ z ≤ 255) := hid (fun z hz => u8Bd (hrd.wf z hz))
                    have HGD : Hid (∀ i, i < 4 → (Lit.int .u8 (((pl.drop a).take 4).getD i 0)).wf = true) := hid (fun i hi => hrd.getD_wf i hi)
                    have HTL : Hid (((pl.drop a).take 4).length = 4) := hid hrd.len
                    have HCL : Hid (∀ i, i < 4 → wr.cell? ⟨b0, off0 + a + i, none⟩ = some (.int .u8 (((pl.drop a).take 4).getD i 0))) := hid (fun i hi => hrd.cellD i hi)
                    clear hrd
                    generalize hT : (pl.drop a).take 4 = t at HWF HGD HTL HCL RW
                    have HT0 := hid hT; clear hT
                    go_wp2_with fail
                    go_loop [10, 12] (fun v i => ∃ (k : Nat), k ≤ 4 ∧ k ≤ 4 ∧ i = .int .i64 k ∧ v = .int .u32 (rdr.num (t.take k))) (fun _ i => 4 - (intOf i).toNat)
                    case atStart => exact ⟨0, by omega, by omega, rfl, by simp [rdr.num]⟩
                    case round =>
                      obtain ⟨k, hk, hk4, rfl, rfl⟩ := hrel
                      by_cases hlt2 : k < 4 ∧ k < 4
                      · obtain ⟨hl1, hl2⟩ := hlt2
                        have qq := HCL.out k hl1
                        have w0 := u8Bd (HGD.out k hl1)
                        have hnb := rdr.num_bd (t.take k) (by rw [List.length_take]; omega) (fun z hz => HWF.out z (List.mem_of_mem_take hz))
                        have hs : t.take (k + 1) = t.take k ++ [t.getD k 0] := by
                          have hjl : k < t.length := by rw [HTL.out]; exact hl1
                          rw [List.take_succ_eq_append_getElem hjl, List.getD_eq_getElem?_getD, List.getElem?_eq_getElem hjl]
                          rfl
                        have HN : Hid (rdr.num (t.take (k + 1)) = rdr.num (t.take k) * 256 + t.getD k 0) := hid (by rw [hs, rdr.num_snoc])
                        clear hs
                        generalize t.getD k 0 = y at *
                        generalize rdr.num (t.take k) = v at *
                        have hor : bits .or .u32 (v * 256) y = v * 256 + y := u32_or_mul v y 8 256 (by decide) hnb.1 w0.1 (by omega) (by omega)
                        have hl1' : (k : Int) < 4 := by omega
                        go_wp2
                        go_round
                        case rel => exact ⟨k + 1, by omega, by omega, by go_num, by rw [HN.out]⟩
                        case measure => simp [intOf]; omega
                      · obtain rfl : k = 4 := by omega
                        have HTT : Hid (t.take 4 = t) := hid (List.take_of_length_le (by rw [HTL.out]; omega))
                        rw [HTT.out]
                        have hnb := rdr.num4_bd t (by rw [HTL.out]; omega) HWF.out
                        have RD := hid (show rdr.Rdr wr _ _ r e p 0 (pl.drop a) from RD.out)
                        go_wp2_with fail
                        refine (rdr.four_ok _ _ _ r e p _ RD.out (by simp; rw [HPL.out]; omega)).mono ?_
                        rintro x w5 ⟨rfl, HRR, OO⟩
                        rw [HT0.out]
                        have RD := hid (show rdr.Rdr _ _ _ r e p 0 (pl.drop (a + 4)) from by simpa [List.drop_drop] using HRR); have HB := hid (HB.out.fresh OO (by simp; omega)); clear HRR OO q0 q1
                        generalize rdr.num t = nv at *
                        go_wp2_with fail
                        refine (rdr.left_ok _ _ _ r e p _ RD.out).mono ?_
                        rintro x w7 ⟨rfl, HRR, OO⟩
                        rw [show ((pl.drop (a + 4)).length : Int) = (m : Int) - ((a : Int) + 4) from by simp; rw [HPL.out]; omega]
                        have RD := hid HRR; have HB := hid (HB.out.fresh OO (by simp; omega)); clear HRR OO
                        go_wp2_with fail
                        refine (rdr.err_ok _ _ _ r e p _ RD.out).mono ?_
                        rintro x w8 ⟨rfl, HRR, OO⟩
                        have RD := hid HRR; have HB := hid (HB.out.fresh OO (by simp; omega)); clear HRR OO
                        go_wp2
                        go_roundw
                        case rel => exact ⟨j + 1, a + 4, false, by omega, hfit, by go_num, by first | go_num | simp, rfl, hid ⟨0, _, RD.out, .inl ⟨rfl, rfl, rfl⟩⟩, HB⟩
                        case measure => simp [intOf]; omega
                  · go_wp2_with fail
                    refine (rdr.four_bad _ _ _ r e p _ _ RD.out (.inl rfl)).mono ?_
                    rintro x w5 ⟨rfl, ⟨l5, h5⟩, OO⟩
                    have RD := hid h5; have HB := hid (HB.out.fresh OO (by simp; omega)); clear h5 OO q0 q1
                    go_wp2_with fail
                    refine (rdr.left_bad _ _ _ r e p _ RD.out).mono ?_
                    rintro x w7 ⟨rfl, ⟨l7, h7⟩, OO⟩
                    have RD := hid h7; have HB := hid (HB.out.fresh OO (by simp; omega)); clear h7 OO
                    go_wp2_with fail
                    refine (rdr.err_bad _ _ _ r e p _ RD.out).mono ?_
                    rintro x w8 ⟨rfl, ⟨l8, h8⟩, OO⟩
                    have RD := hid h8; have HB := hid (HB.out.fresh OO (by simp; omega)); clear h8 OO
                    go_wp2_with fail
                    refine (rdr.err_bad _ _ _ r e p _ RD.out).mono ?_
                    rintro x w9 ⟨rfl, ⟨l9, h9⟩, OO⟩
                    have RD := hid h9; have HB := hid (HB.out.fresh OO (by simp; omega)); clear h9 OO
                    go_wp2
                    go_roundw
                    case rel => exact ⟨j + 1, a, true, by omega, ha, by go_num, rfl, rfl, hid ⟨2, _, RD.out, .inr ⟨rfl, rfl⟩⟩, HB⟩
                    case measure => simp [intOf]; omega
              · have d1 : (K j == 1) = false := by simpa using h1
                have d2 : (K j == 2) = false := by simpa using h2
                have d4 : (K j == 4) = false := by simpa using h4
                have e1 : (K j != 1) = true := by simpa using h1
                have e2 : (K j != 2) = true := by simpa using h2
                have e4 : (K j != 4) = true := by simpa using h4
                clear h1 h2 h4
                generalize K j = kj at *
                by_cases hc1 : V j < 0
                · obtain ⟨er, lst, hRD, hd⟩ := HR.out
                  have RD := hid hRD; clear hRD
                  rcases hd with ⟨rfl, rfl, rfl⟩ | ⟨rfl, rfl⟩
                  · go_wp2_with fail
                    refine (rdr.raw_bad _ _ _ r e p _ _ _ RD.out (.inr ⟨rfl, .inl hc1⟩)).mono ?_
                    rintro x w5 ⟨vv, rfl, hvv, ⟨l5, h5⟩, OO⟩
                    obtain ⟨A6, c6, ev6, _, _, r6, _⟩ := hvv.slice
                    simp only [List.length_nil] at ev6 r6
                    subst ev6
                    have R6 := hid r6; have RD := hid h5; have HB := hid (HB.out.fresh OO (by simp; omega)); clear h5 OO r6 hvv q0 q1
                    go_wp2_with fail
                    refine (callsOnly (hlp.same _ A6 none 0 0 c6 0 [] [] R6.out (Rd.nil _ _ _) (by omega) (by omega))).mono ?_
                    rintro x w6 ⟨rfl, OO⟩
                    rw [show decide (([] : List Int) = []) = true from by simp]
                    have RD := hid (RD.out.only_nil OO); have HB := hid (HB.out.trans OO); clear OO
                    go_wp2_with fail
                    refine (rdr.left_bad _ _ _ r e p _ RD.out).mono ?_
                    rintro x w7 ⟨rfl, ⟨l7, h7⟩, OO⟩
                    have RD := hid h7; have HB := hid (HB.out.fresh OO (by simp; omega)); clear h7 OO
                    go_wp2_with fail
                    refine (rdr.err_bad _ _ _ r e p _ RD.out).mono ?_
                    rintro x w8 ⟨rfl, ⟨l8, h8⟩, OO⟩
                    have RD := hid h8; have HB := hid (HB.out.fresh OO (by simp; omega)); clear h8 OO
                    go_wp2_with fail
                    refine (rdr.err_bad _ _ _ r e p _ RD.out).mono ?_
                    rintro x w9 ⟨rfl, ⟨l9, h9⟩, OO⟩
                    have RD := hid h9; have HB := hid (HB.out.fresh OO (by simp; omega)); clear h9 OO
                    go_wp2
                    go_roundw
                    case rel => exact ⟨j + 1, a, true, by omega, ha, by go_num, rfl, rfl, hid ⟨2, _, RD.out, .inr ⟨rfl, rfl⟩⟩, HB⟩
                    case measure => simp [intOf]; omega
                  · go_wp2_with fail
                    refine (rdr.raw_bad _ _ _ r e p _ _ _ RD.out (.inl rfl)).mono ?_
                    rintro x w5 ⟨vv, rfl, hvv, ⟨l5, h5⟩, OO⟩
                    obtain ⟨A6, c6, ev6, _, _, r6, _⟩ := hvv.slice
                    simp only [List.length_nil] at ev6 r6
                    subst ev6
                    have R6 := hid r6; have RD := hid h5; have HB := hid (HB.out.fresh OO (by simp; omega)); clear h5 OO r6 hvv q0 q1
                    go_wp2_with fail
                    refine (callsOnly (hlp.same _ A6 none 0 0 c6 0 [] [] R6.out (Rd.nil _ _ _) (by omega) (by omega))).mono ?_
                    rintro x w6 ⟨rfl, OO⟩
                    rw [show decide (([] : List Int) = []) = true from by simp]
                    have RD := hid (RD.out.only_nil OO); have HB := hid (HB.out.trans OO); clear OO
                    go_wp2_with fail
                    refine (rdr.left_bad _ _ _ r e p _ RD.out).mono ?_
                    rintro x w7 ⟨rfl, ⟨l7, h7⟩, OO⟩
                    have RD := hid h7; have HB := hid (HB.out.fresh OO (by simp; omega)); clear h7 OO
                    go_wp2_with fail
                    refine (rdr.err_bad _ _ _ r e p _ RD.out).mono ?_
                    rintro x w8 ⟨rfl, ⟨l8, h8⟩, OO⟩
                    have RD := hid h8; have HB := hid (HB.out.fresh OO (by simp; omega)); clear h8 OO
                    go_wp2_with fail
                    refine (rdr.err_bad _ _ _ r e p _ RD.out).mono ?_
                    rintro x w9 ⟨rfl, ⟨l9, h9⟩, OO⟩
                    have RD := hid h9; have HB := hid (HB.out.fresh OO (by simp; omega)); clear h9 OO
                    go_wp2
                    go_roundw
                    case rel => exact ⟨j + 1, a, true, by omega, ha, by go_num, rfl, rfl, hid ⟨2, _, RD.out, .inr ⟨rfl, rfl⟩⟩, HB⟩
                    case measure => simp [intOf]; omega
                · by_cases hc2 : (m : Int) - (a : Int) < V j
                  · obtain ⟨er, lst, hRD, hd⟩ := HR.out
                    have RD := hid hRD; clear hRD
                    rcases hd with ⟨rfl, rfl, rfl⟩ | ⟨rfl, rfl⟩
                    · go_wp2_with fail
                      refine (rdr.raw_bad _ _ _ r e p _ _ _ RD.out (.inr ⟨rfl, .inr (by simp; rw [HPL.out]; omega)⟩)).mono ?_
                      rintro x w5 ⟨vv, rfl, hvv, ⟨l5, h5⟩, OO⟩
                      obtain ⟨A6, c6, ev6, _, _, r6, _⟩ := hvv.slice
                      simp only [List.length_nil] at ev6 r6
                      subst ev6
                      have R6 := hid r6; have RD := hid h5; have HB := hid (HB.out.fresh OO (by simp; omega)); clear h5 OO r6 hvv q0 q1
                      go_wp2_with fail
                      refine (callsOnly (hlp.same _ A6 none 0 0 c6 0 [] [] R6.out (Rd.nil _ _ _) (by omega) (by omega))).mono ?_
                      rintro x w6 ⟨rfl, OO⟩
                      rw [show decide (([] : List Int) = []) = true from by simp]
                      have RD := hid (RD.out.only_nil OO); have HB := hid (HB.out.trans OO); clear OO
                      go_wp2_with fail
                      refine (rdr.left_bad _ _ _ r e p _ RD.out).mono ?_
                      rintro x w7 ⟨rfl, ⟨l7, h7⟩, OO⟩
                      have RD := hid h7; have HB := hid (HB.out.fresh OO (by simp; omega)); clear h7 OO
                      go_wp2_with fail
                      refine (rdr.err_bad _ _ _ r e p _ RD.out).mono ?_
                      rintro x w8 ⟨rfl, ⟨l8, h8⟩, OO⟩
                      have RD := hid h8; have HB := hid (HB.out.fresh OO (by simp; omega)); clear h8 OO
                      go_wp2_with fail
                      refine (rdr.err_bad _ _ _ r e p _ RD.out).mono ?_
                      rintro x w9 ⟨rfl, ⟨l9, h9⟩, OO⟩
                      have RD := hid h9; have HB := hid (HB.out.fresh OO (by simp; omega)); clear h9 OO
                      go_wp2
                      go_roundw
                      case rel => exact ⟨j + 1, a, true, by omega, ha, by go_num, rfl, rfl, hid ⟨2, _, RD.out, .inr ⟨rfl, rfl⟩⟩, HB⟩
                      case measure => simp [intOf]; omega
                    · go_wp2_with fail
                      refine (rdr.raw_bad _ _ _ r e p _ _ _ RD.out (.inl rfl)).mono ?_
                      rintro x w5 ⟨vv, rfl, hvv, ⟨l5, h5⟩, OO⟩
                      obtain ⟨A6, c6, ev6, _, _, r6, _⟩ := hvv.slice
                      simp only [List.length_nil] at ev6 r6
                      subst ev6
                      have R6 := hid r6; have RD := hid h5; have HB := hid (HB.out.fresh OO (by simp; omega)); clear h5 OO r6 hvv q0 q1
                      go_wp2_with fail
                      refine (callsOnly (hlp.same _ A6 none 0 0 c6 0 [] [] R6.out (Rd.nil _ _ _) (by omega) (by omega))).mono ?_
                      rintro x w6 ⟨rfl, OO⟩
                      rw [show decide (([] : List Int) = []) = true from by simp]
                      have RD := hid (RD.out.only_nil OO); have HB := hid (HB.out.trans OO); clear OO
                      go_wp2_with fail
                      refine (rdr.left_bad _ _ _ r e p _ RD.out).mono ?_
                      rintro x w7 ⟨rfl, ⟨l7, h7⟩, OO⟩
                      have RD := hid h7; have HB := hid (HB.out.fresh OO (by simp; omega)); clear h7 OO
                      go_wp2_with fail
                      refine (rdr.err_bad _ _ _ r e p _ RD.out).mono ?_
                      rintro x w8 ⟨rfl, ⟨l8, h8⟩, OO⟩
                      have RD := hid h8; have HB := hid (HB.out.fresh OO (by simp; omega)); clear h8 OO
                      go_wp2_with fail
                      refine (rdr.err_bad _ _ _ r e p _ RD.out).mono ?_
                      rintro x w9 ⟨rfl, ⟨l9, h9⟩, OO⟩
                      have RD := hid h9; have HB := hid (HB.out.fresh OO (by simp; omega)); clear h9 OO
                      go_wp2
                      go_roundw
                      case rel => exact ⟨j + 1, a, true, by omega, ha, by go_num, rfl, rfl, hid ⟨2, _, RD.out, .inr ⟨rfl, rfl⟩⟩, HB⟩
                      case measure => simp [intOf]; omega
                  · obtain ⟨er, lst, hRD, hd⟩ := HR.out
                    have RD := hid hRD; clear hRD
                    rcases hd with ⟨rfl, rfl, rfl⟩ | ⟨rfl, rfl⟩
                    · obtain ⟨nn, hnn⟩ : ∃ nn : Nat, V j = (nn : Int) := ⟨(V j).toNat, by omega⟩
                      rw [hnn] at q1 hc1 hc2
                      clear hnn
                      by_cases hz : nn = 0
                      · subst hz
                        have hc3 : (0 : Int) ≤ (m : Int) - (a : Int) := by omega
                        have hac : (a : Int) ≤ c0 := by omega
                        by_cases hca : c0 = a
                        · subst hca
                          go_wp2_with fail
                          go_loop [10, 12] (fun v i => i = .int .i64 0 ∧ v = .int .u32 0) (fun _ _ => 0)
                          case atStart => exact ⟨rfl, rfl⟩
                          case round =>
                            obtain ⟨rfl, rfl⟩ := hrel
                            go_wp2_with fail
                            refine (rdr.raw_ok _ _ _ r e p _ 0 0 RD.out rfl (by omega) (by omega)).mono ?_
                            rintro x w5 ⟨vv, rfl, hvv, HRR, OO⟩
                            simp only [List.take_zero] at hvv
                            obtain ⟨A6, c6, ev6, _, _, r6, _⟩ := hvv.slice
                            simp only [List.length_nil] at ev6 r6
                            subst ev6
                            have R6 := hid r6; have RD := hid (show rdr.Rdr _ _ _ r e p 0 (pl.drop c0) from by simpa using HRR); have HB := hid (HB.out.fresh OO (by simp; omega)); clear HRR OO r6 hvv q0 q1
                            go_wp2_with fail
                            refine (callsOnly (hlp.same _ A6 _ 0 0 c6 _ [] [] R6.out (Rd.nil _ _ _) (by omega) (by omega))).mono ?_
                            rintro x w6 ⟨rfl, OO⟩
                            rw [show decide (([] : List Int) = []) = true from by simp]
                            have RD := hid (RD.out.only_nil OO); have HB := hid (HB.out.trans OO); clear OO
                            go_wp2_with fail
                            refine (rdr.left_ok _ _ _ r e p _ RD.out).mono ?_
                            rintro x w7 ⟨rfl, HRR, OO⟩
                            rw [show ((pl.drop c0).length : Int) = (m : Int) - (c0 : Int) from by simp; rw [HPL.out]; omega]
                            have RD := hid HRR; have HB := hid (HB.out.fresh OO (by simp; omega)); clear HRR OO
                            go_wp2_with fail
                            refine (rdr.err_ok _ _ _ r e p _ RD.out).mono ?_
                            rintro x w8 ⟨rfl, HRR, OO⟩
                            have RD := hid HRR; have HB := hid (HB.out.fresh OO (by simp; omega)); clear HRR OO
                            go_wp2
                            go_roundw
                            case rel => exact ⟨j + 1, c0, false, by omega, ha, by go_num, rfl, rfl, hid ⟨0, _, RD.out, .inl ⟨rfl, rfl, rfl⟩⟩, HB⟩
                            case measure => simp [intOf]; omega
                        · go_wp2_with fail
                          go_loop [10, 12] (fun v i => i = .int .i64 0 ∧ v = .int .u32 0) (fun _ _ => 0)
                          case atStart => exact ⟨rfl, rfl⟩
                          case round =>
                            obtain ⟨rfl, rfl⟩ := hrel
                            go_wp2_with fail
                            refine (rdr.raw_ok _ _ _ r e p _ 0 0 RD.out rfl (by omega) (by omega)).mono ?_
                            rintro x w5 ⟨vv, rfl, hvv, HRR, OO⟩
                            simp only [List.take_zero] at hvv
                            obtain ⟨A6, c6, ev6, _, _, r6, _⟩ := hvv.slice
                            simp only [List.length_nil] at ev6 r6
                            subst ev6
                            have R6 := hid r6; have RD := hid (show rdr.Rdr _ _ _ r e p 0 (pl.drop a) from by simpa using HRR); have HB := hid (HB.out.fresh OO (by simp; omega)); clear HRR OO r6 hvv q0 q1
                            go_wp2_with fail
                            refine (callsOnly (hlp.same _ A6 _ 0 0 c6 _ [] [] R6.out (Rd.nil _ _ _) (by omega) (by omega))).mono ?_
                            rintro x w6 ⟨rfl, OO⟩
                            rw [show decide (([] : List Int) = []) = true from by simp]
                            have RD := hid (RD.out.only_nil OO); have HB := hid (HB.out.trans OO); clear OO
                            go_wp2_with fail
                            refine (rdr.left_ok _ _ _ r e p _ RD.out).mono ?_
                            rintro x w7 ⟨rfl, HRR, OO⟩
                            rw [show ((pl.drop a).length : Int) = (m : Int) - (a : Int) from by simp; rw [HPL.out]; omega]
                            have RD := hid HRR; have HB := hid (HB.out.fresh OO (by simp; omega)); clear HRR OO
                            go_wp2_with fail
                            refine (rdr.err_ok _ _ _ r e p _ RD.out).mono ?_
                            rintro x w8 ⟨rfl, HRR, OO⟩
                            have RD := hid HRR; have HB := hid (HB.out.fresh OO (by simp; omega)); clear HRR OO
                            go_wp2
                            go_roundw
                            case rel => exact ⟨j + 1, a, false, by omega, ha, by go_num, rfl, rfl, hid ⟨0, _, RD.out, .inl ⟨rfl, rfl, rfl⟩⟩, HB⟩
                            case measure => simp [intOf]; omega
                      · have hfit : a + nn ≤ m := by omega
                        obtain ⟨b0, off0, rfl, hb0, _⟩ := HP.out.at_ (by omega)
                        have RW := hid ((HP.out.drop a (by omega)).take nn (by omega))
                        have hrd := RW.out.only_nil HB.out
                        have hcap : (a : Int) + nn ≤ c0 := by omega
                        have hne : ¬ c0 = a := by omega
                        have HWF : Hid (∀ z ∈ (pl.drop a).take nn, 0 ≤ z ∧ z ≤ 255) := hid (fun z hz => u8Bd (hrd.wf z hz))
                        have HGD : Hid (∀ i, i < nn → (Lit.int .u8 (((pl.drop a).take nn).getD i 0)).wf = true) := hid (fun i hi => hrd.getD_wf i hi)
                        have HTL : Hid (((pl.drop a).take nn).length = nn) := hid hrd.len
                        have HCL : Hid (∀ i, i < nn → wr.cell? ⟨b0, off0 + a + i, none⟩ = some (.int .u8 (((pl.drop a).take nn).getD i 0))) := hid (fun i hi => hrd.cellD i hi)
                        clear hrd
                        generalize hT : (pl.drop a).take nn = t at HWF HGD HTL HCL RW
                        have HT0 := hid hT; clear hT
                        go_wp2_with fail
                        go_loop [10, 12] (fun v i => ∃ (k : Nat), k ≤ nn ∧ k ≤ 4 ∧ i = .int .i64 k ∧ v = .int .u32 (rdr.num (t.take k))) (fun _ i => 4 - (intOf i).toNat)
                        case atStart => exact ⟨0, by omega, by omega, rfl, by simp [rdr.num]⟩
                        case round =>
                          obtain ⟨k, hk, hk4, rfl, rfl⟩ := hrel
                          by_cases hlt2 : k < nn ∧ k < 4
                          · obtain ⟨hl1, hl2⟩ := hlt2
                            have qq := HCL.out k hl1
                            have w0 := u8Bd (HGD.out k hl1)
                            have hnb := rdr.num_bd (t.take k) (by rw [List.length_take]; omega) (fun z hz => HWF.out z (List.mem_of_mem_take hz))
                            have hs : t.take (k + 1) = t.take k ++ [t.getD k 0] := by
                              have hjl : k < t.length := by rw [HTL.out]; exact hl1
                              rw [List.take_succ_eq_append_getElem hjl, List.getD_eq_getElem?_getD, List.getElem?_eq_getElem hjl]
                              rfl
                            have HN : Hid (rdr.num (t.take (k + 1)) = rdr.num (t.take k) * 256 + t.getD k 0) := hid (by rw [hs, rdr.num_snoc])
                            clear hs
                            generalize t.getD k 0 = y at *
                            generalize rdr.num (t.take k) = v at *
                            have hor : bits .or .u32 (v * 256) y = v * 256 + y := u32_or_mul v y 8 256 (by decide) hnb.1 w0.1 (by omega) (by omega)
                            have hl1' : (k : Int) < nn := by omega
                            go_wp2
                            go_round
                            case rel => exact ⟨k + 1, by omega, by omega, by go_num, by rw [HN.out]⟩
                            case measure => simp [intOf]; omega
                          · have RD := hid (show rdr.Rdr wr _ _ r e p 0 (pl.drop a) from RD.out)
                            by_cases hkn : k < nn
                            · obtain rfl : k = 4 := by omega
                              have hl1' : (4 : Int) < nn := by omega
                              have hnb := rdr.num4_bd (t.take 4) (by rw [List.length_take]; omega) (fun z hz => HWF.out z (List.mem_of_mem_take hz))
                              generalize rdr.num (t.take 4) = nv at *
                              go_wp2_with fail
                              refine (rdr.raw_ok _ _ _ r e p _ (nn : Int) nn RD.out rfl (by simp; rw [HPL.out]; omega) (by omega)).mono ?_
                              rintro x w5 ⟨vv, rfl, hvv, HRR, OO⟩
                              rw [HT0.out] at hvv
                              obtain ⟨A6, c6, ev6, _, _, r6, _⟩ := hvv.slice
                              rw [HTL.out] at ev6 r6
                              subst ev6
                              have R6 := hid r6; have RD := hid (show rdr.Rdr _ _ _ r e p 0 (pl.drop (a + nn)) from by simpa [List.drop_drop] using HRR); have HB := hid (HB.out.fresh OO (by simp; omega)); clear HRR OO r6 hvv q0 q1
                              go_wp2_with fail
                              refine (callsOnly (hlp.same _ A6 _ nn nn c6 _ t t R6.out (RW.out.only_nil HB.out) (by omega) (by omega))).mono ?_
                              rintro x w6 ⟨rfl, OO⟩
                              rw [show decide (t = t) = true from by simp]
                              have RD := hid (RD.out.only_nil OO); have HB := hid (HB.out.trans OO); clear OO
                              go_wp2_with fail
                              refine (rdr.left_ok _ _ _ r e p _ RD.out).mono ?_
                              rintro x w7 ⟨rfl, HRR, OO⟩
                              rw [show ((pl.drop (a + nn)).length : Int) = (m : Int) - ((a : Int) + nn) from by simp; rw [HPL.out]; omega]
                              have RD := hid HRR; have HB := hid (HB.out.fresh OO (by simp; omega)); clear HRR OO
                              go_wp2_with fail
                              refine (rdr.err_ok _ _ _ r e p _ RD.out).mono ?_
                              rintro x w8 ⟨rfl, HRR, OO⟩
                              have RD := hid HRR; have HB := hid (HB.out.fresh OO (by simp; omega)); clear HRR OO
                              go_wp2
                              go_roundw
                              case rel => exact ⟨j + 1, a + nn, false, by omega, hfit, by go_num, by first | go_num | simp, rfl, hid ⟨0, _, RD.out, .inl ⟨rfl, rfl, rfl⟩⟩, HB⟩
                              case measure => simp [intOf]; omega
                            · obtain rfl : k = nn := by omega
                              have hnb := rdr.num4_bd (t.take k) (by rw [List.length_take]; omega) (fun z hz => HWF.out z (List.mem_of_mem_take hz))
                              generalize rdr.num (t.take k) = nv at *
                              go_wp2_with fail
                              refine (rdr.raw_ok _ _ _ r e p _ (k : Int) k RD.out rfl (by simp; rw [HPL.out]; omega) (by omega)).mono ?_
                              rintro x w5 ⟨vv, rfl, hvv, HRR, OO⟩
                              rw [HT0.out] at hvv
                              obtain ⟨A6, c6, ev6, _, _, r6, _⟩ := hvv.slice
                              rw [HTL.out] at ev6 r6
                              subst ev6
                              have R6 := hid r6; have RD := hid (show rdr.Rdr _ _ _ r e p 0 (pl.drop (a + k)) from by simpa [List.drop_drop] using HRR); have HB := hid (HB.out.fresh OO (by simp; omega)); clear HRR OO r6 hvv q0 q1
                              go_wp2_with fail
                              refine (callsOnly (hlp.same _ A6 _ k k c6 _ t t R6.out (RW.out.only_nil HB.out) (by omega) (by omega))).mono ?_
                              rintro x w6 ⟨rfl, OO⟩
                              rw [show decide (t = t) = true from by simp]
                              have RD := hid (RD.out.only_nil OO); have HB := hid (HB.out.trans OO); clear OO
                              go_wp2_with fail
                              refine (rdr.left_ok _ _ _ r e p _ RD.out).mono ?_
                              rintro x w7 ⟨rfl, HRR, OO⟩
                              rw [show ((pl.drop (a + k)).length : Int) = (m : Int) - ((a : Int) + k) from by simp; rw [HPL.out]; omega]
                              have RD := hid HRR; have HB := hid (HB.out.fresh OO (by simp; omega)); clear HRR OO
                              go_wp2_with fail
                              refine (rdr.err_ok _ _ _ r e p _ RD.out).mono ?_
                              rintro x w8 ⟨rfl, HRR, OO⟩
                              have RD := hid HRR; have HB := hid (HB.out.fresh OO (by simp; omega)); clear HRR OO
                              go_wp2
                              go_roundw
                              case rel => exact ⟨j + 1, a + k, false, by omega, hfit, by go_num, by first | go_num | simp, rfl, hid ⟨0, _, RD.out, .inl ⟨rfl, rfl, rfl⟩⟩, HB⟩
                              case measure => simp [intOf]; omega
                    · go_wp2_with fail
                      refine (rdr.raw_bad _ _ _ r e p _ _ _ RD.out (.inl rfl)).mono ?_
                      rintro x w5 ⟨vv, rfl, hvv, ⟨l5, h5⟩, OO⟩
                      obtain ⟨A6, c6, ev6, _, _, r6, _⟩ := hvv.slice
                      simp only [List.length_nil] at ev6 r6
                      subst ev6
                      have R6 := hid r6; have RD := hid h5; have HB := hid (HB.out.fresh OO (by simp; omega)); clear h5 OO r6 hvv q0 q1
                      go_wp2_with fail
                      refine (callsOnly (hlp.same _ A6 none 0 0 c6 0 [] [] R6.out (Rd.nil _ _ _) (by omega) (by omega))).mono ?_
                      rintro x w6 ⟨rfl, OO⟩
                      rw [show decide (([] : List Int) = []) = true from by simp]
                      have RD := hid (RD.out.only_nil OO); have HB := hid (HB.out.trans OO); clear OO
                      go_wp2_with fail
                      refine (rdr.left_bad _ _ _ r e p _ RD.out).mono ?_
                      rintro x w7 ⟨rfl, ⟨l7, h7⟩, OO⟩
                      have RD := hid h7; have HB := hid (HB.out.fresh OO (by simp; omega)); clear h7 OO
                      go_wp2_with fail
                      refine (rdr.err_bad _ _ _ r e p _ RD.out).mono ?_
                      rintro x w8 ⟨rfl, ⟨l8, h8⟩, OO⟩
                      have RD := hid h8; have HB := hid (HB.out.fresh OO (by simp; omega)); clear h8 OO
                      go_wp2_with fail
                      refine (rdr.err_bad _ _ _ r e p _ RD.out).mono ?_
                      rintro x w9 ⟨rfl, ⟨l9, h9⟩, OO⟩
                      have RD := hid h9; have HB := hid (HB.out.fresh OO (by simp; omega)); clear h9 OO
                      go_wp2
                      go_roundw
                      case rel => exact ⟨j + 1, a, true, by omega, ha, by go_num, rfl, rfl, hid ⟨2, _, RD.out, .inr ⟨rfl, rfl⟩⟩, HB⟩
                      case measure => simp [intOf]; omega
        · go_wp2_with fail
          refine (known _).mono ?_
          rintro x w3 ⟨rfl, o3⟩
          have HB := hid (HB.out.trans o3); clear o3
          go_wp2
          go_ret
          exact ⟨rfl, HB.out⟩
  · have hm' : 4000 < m := by omega
    go_enter Try.func4, Try.ntmps4
    go_wp2
    go_ret
    exact ⟨rfl, Only.refl _ _⟩
end Go.Proofs.Ytiphkkcfpkkkeaa.oct
