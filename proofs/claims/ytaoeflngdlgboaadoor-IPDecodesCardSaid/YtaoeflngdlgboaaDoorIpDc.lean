/-
  Chapter 6 (ipv4): what the code and the document read of any bytes. Conditions: none but those typed.
-/
import Derived.Test.YtaoeflngdlgboaaDoorIpDb
namespace Go.Proofs.YtaoeflngdlgboaaDoor.ip
set_option linter.unusedVariables false
set_option linter.unusedSimpArgs false
open Go.ChangeShapes Go.WideShapes Go.ChangeAt Go.RowKit Go.IntWalk Go.Lib
theorem dEp_early {l : List Int} {e : Int} (h : early l = e) (he : e ≠ 0) : dEp l = e := by unfold dEp; rw [h, if_pos he]
theorem rdecErr (w : World) (A : Option Addr) (n c : Nat) (l : List Int) (hl : Rd .u8 w A n l) (hnc : n ≤ c) (hcm : c ≤ maxLen) (hn : n ≤ 70000) (hne : dEp l ≠ 0) :
    Calls Tryd.prog 19 #[.slice A n c] w fun x w' => x = .returned (.tuple #[.agg #[.int .i64 0, .int .i64 0, .bool false, .bool false, .int .i64 0, .int .i64 0, .int .i64 0, .int .u32 0, .int .u32 0, .slice none 0 0, .slice none 0 0], .int .i64 (dEp l)]) ∧ Only [] w w' := by
  have hll := hl.len
  by_cases a1 : n < 20
  · rw [dEp_early (e := 2) (by unfold early; rw [if_pos (by omega)]) (by decide)]
    exact r1 w A n c a1
  · obtain ⟨b, off, rfl, hb, hc⟩ := ((hl.alloc (.cells #[.int .i64 0, .int .i64 0, .bool false, .bool false, .int .i64 0, .int .i64 0, .int .i64 0, .int .u32 0, .int .u32 0, .slice none 0 0, .slice none 0 0] 26)).alloc (.cells #[.int .i64 0, .int .i64 0, .bool false, .bool false, .int .i64 0, .int .i64 0, .int .i64 0, .int .u32 0, .int .u32 0, .slice none 0 0, .slice none 0 0] 26)).at_ (by omega)
    have hbw : b < w.heap.size := by
      obtain ⟨b2, o2, e2, hb2, _⟩ := hl.at_ (by omega)
      injection e2 with e2; injection e2 with e2 e3; omega
    have c0 := hc 0 (by omega); rw [Nat.add_zero] at c0
    have w0 := u8Bd (hl.getD_wf 0 (by omega))
    have hpt : (l.getD 0 0).tdiv 16 = l.getD 0 0 / 16 := Int.tdiv_eq_ediv_of_nonneg w0.1
    have hqt : (l.getD 0 0).tmod 16 = l.getD 0 0 % 16 := Int.tmod_eq_emod_of_nonneg w0.1
    have wf : ∀ j, j < 8 → 0 ≤ l.getD j 0 ∧ l.getD j 0 ≤ 255 := fun j hj => u8Bd (hl.getD_wf j (by omega))
    have eh : hd l = l.getD 0 0 % 16 * 4 := rfl
    have et : tot l = l.getD 2 0 * 256 + l.getD 3 0 := rfl
    have x2 := wf 2 (by omega); have x3 := wf 3 (by omega)
    have T2 : ref.get2 l 2 = (((tot l).toNat : Nat) : Int) := by show l.getD 2 0 * 256 + l.getD 3 0 = _; omega
    have e0 : early l = if l.getD 0 0 / 16 ≠ 4 then 3 else if hd l < 20 then 3 else if (l.length : Int) < hd l then 2 else if tot l < hd l then 3 else if (l.length : Int) < tot l then 2 else if oct.sumF (l.take (hd l).toNat) ≠ 0 then 4 else 0 := by unfold early; rw [if_neg (by omega)]
    by_cases a2 : l.getD 0 0 / 16 = 4
    · by_cases a3 : hd l < 20
      · rw [dEp_early (e := 3) (by rw [e0, if_neg (by omega), if_pos a3]) (by decide)]
        exact r3 w b off n c (l.getD 0 0) (l.getD 0 0 / 16) (l.getD 0 0 % 16) (hd l).toNat (tot l).toNat l hl (by omega) hn hnc hcm hbw c0 w0 rfl hpt rfl hqt (by omega) (by omega) a2 (by omega)
      · by_cases a4 : (l.length : Int) < hd l
        · rw [dEp_early (e := 2) (by rw [e0, if_neg (by omega), if_neg a3, if_pos a4]) (by decide)]
          exact r4 w b off n c (l.getD 0 0) (l.getD 0 0 / 16) (l.getD 0 0 % 16) (hd l).toNat (tot l).toNat l hl (by omega) hn hnc hcm hbw c0 w0 rfl hpt rfl hqt (by omega) (by omega) a2 (by omega) (by omega)
        · by_cases a5 : tot l < hd l
          · rw [dEp_early (e := 3) (by rw [e0, if_neg (by omega), if_neg a3, if_neg a4, if_pos a5]) (by decide)]
            exact r5 w b off n c (l.getD 0 0) (l.getD 0 0 / 16) (l.getD 0 0 % 16) (hd l).toNat (tot l).toNat l hl (by omega) hn hnc hcm hbw c0 w0 rfl hpt rfl hqt (by omega) (by omega) a2 (by omega) (by omega) (by omega) (hid T2)
          · by_cases a6 : (l.length : Int) < tot l
            · rw [dEp_early (e := 2) (by rw [e0, if_neg (by omega), if_neg a3, if_neg a4, if_neg a5, if_pos a6]) (by decide)]
              exact r6 w b off n c (l.getD 0 0) (l.getD 0 0 / 16) (l.getD 0 0 % 16) (hd l).toNat (tot l).toNat l hl (by omega) hn hnc hcm hbw c0 w0 rfl hpt rfl hqt (by omega) (by omega) a2 (by omega) (by omega) (by omega) (by omega) (hid T2)
            · by_cases a7 : oct.sumF (l.take (hd l).toNat) ≠ 0
              · rw [dEp_early (e := 4) (by rw [e0, if_neg (by omega), if_neg a3, if_neg a4, if_neg a5, if_neg a6, if_pos a7]) (by decide)]
                exact r7 w b off n c (l.getD 0 0) (l.getD 0 0 / 16) (l.getD 0 0 % 16) (hd l).toNat (tot l).toNat l hl (by omega) hn hnc hcm hbw c0 w0 rfl hpt rfl hqt (by omega) (by omega) a2 (by omega) (by omega) (by omega) (by omega) (hid T2) (hid a7)
              · have he : early l = 0 := by rw [e0, if_neg (by omega), if_neg a3, if_neg a4, if_neg a5, if_neg a6, if_neg a7]
                have a7' := Decidable.not_not.1 a7
                have hd1 : dEp l = late l := by unfold dEp; rw [if_neg (fun h => h he)]
                rw [hd1] at hne ⊢
                have hof := ofs_okO (optD l)
                have hB := get2_bd l 6 wf
                have ht : (ref.get2 l 6).tmod 8192 = ref.get2 l 6 % 8192 := Int.tmod_eq_emod_of_nonneg hB.1
                by_cases hb1 : (bits .and .i64 (ref.get2 l 6) 32768 != 0) = true
                · rw [show late l = 3 from by unfold late; rw [if_pos hb1]]
                  exact r8 w b off n c (l.getD 0 0) (l.getD 0 0 / 16) (l.getD 0 0 % 16) (hd l).toNat (tot l).toNat l hl (by omega) hn hnc hcm hbw c0 w0 rfl hpt rfl hqt (by omega) (by omega) a2 (by omega) (by omega) (by omega) (by omega) (hid T2) (hid a7') (ref.get2 l 6) 0 _ (hid rfl) (hid rfl) hb1
                · have hb2 : (bits .and .i64 (ref.get2 l 6) 32768 != 0) = false := by simpa using hb1
                  cases ho : okO (optD l) with
                  | false =>
                    rw [show late l = 3 from by unfold late; rw [if_neg hb1, if_pos ho]]
                    exact r9 w b off n c (l.getD 0 0) (l.getD 0 0 / 16) (l.getD 0 0 % 16) (hd l).toNat (tot l).toNat l hl (by omega) hn hnc hcm hbw c0 w0 rfl hpt rfl hqt (by omega) (by omega) a2 (by omega) (by omega) (by omega) (by omega) (hid T2) (hid a7') (ref.get2 l 6) 0 _ (hid rfl) (hid rfl) hb2 (by rw [ho] at hof; exact hof)
                  | true =>
                    by_cases hg : 65535 - hd l < ref.get2 l 6 % 8192 * 8 + tot l - hd l
                    · rw [show late l = 5 from by unfold late; rw [if_neg hb1, if_neg (by rw [ho]; simp), if_pos hg]]
                      exact r10 w b off n c (l.getD 0 0) (l.getD 0 0 / 16) (l.getD 0 0 % 16) (hd l).toNat (tot l).toNat l hl (by omega) hn hnc hcm hbw c0 w0 rfl hpt rfl hqt (by omega) (by omega) a2 (by omega) (by omega) (by omega) (by omega) (hid T2) (hid a7') (ref.get2 l 6) (ref.get2 l 6 % 8192) _ (hid rfl) (hid rfl) hb2 (by rw [ho] at hof; exact hof) rfl ht (by omega) (by omega)
                    · exfalso; apply hne; unfold late; rw [if_neg hb1, if_neg (by rw [ho]; simp), if_neg hg]
    · rw [dEp_early (e := 3) (by rw [e0, if_pos a2]) (by decide)]
      exact r2 w b off n c (l.getD 0 0) (l.getD 0 0 / 16) (l.getD 0 0 % 16) (hd l).toNat (tot l).toNat l hl (by omega) hn hnc hcm hbw c0 w0 rfl hpt rfl hqt (by omega) (by omega) a2
theorem rdecOk (w : World) (A : Option Addr) (n c : Nat) (l : List Int) (hl : Rd .u8 w A n l) (hnc : n ≤ c) (hcm : c ≤ maxLen) (hn : n ≤ 70000) (h0 : dEp l = 0) :
    Calls Tryd.prog 19 #[.slice A n c] w fun x w' => ∃ ov dv, x = .returned (.tuple #[.agg #[.int .i64 (l.getD 1 0), .int .i64 (ref.get2 l 4), .bool (bits .and .i64 (ref.get2 l 6) 16384 != 0), .bool (bits .and .i64 (ref.get2 l 6) 8192 != 0), .int .i64 (ref.get2 l 6 % 8192 * 8), .int .i64 (l.getD 8 0), .int .i64 (l.getD 9 0), .int .u32 (ref.get4 l 12), .int .u32 (ref.get4 l 16), ov, dv], .int .i64 0]) ∧ Own .u8 5 w' w.heap.size ov (optD l) ∧ Own .u8 5 w' w.heap.size dv (datD l) ∧ Only [] w w' := by
  obtain ⟨he, hb2, ho, hg⟩ := dEp0 h0
  obtain ⟨a1, a2, a3, a4, a5, a6, a7⟩ := early0 he
  have hll := hl.len
  obtain ⟨b, off, rfl, hb, hc⟩ := ((hl.alloc (.cells #[.int .i64 0, .int .i64 0, .bool false, .bool false, .int .i64 0, .int .i64 0, .int .i64 0, .int .u32 0, .int .u32 0, .slice none 0 0, .slice none 0 0] 26)).alloc (.cells #[.int .i64 0, .int .i64 0, .bool false, .bool false, .int .i64 0, .int .i64 0, .int .i64 0, .int .u32 0, .int .u32 0, .slice none 0 0, .slice none 0 0] 26)).at_ (by omega)
  have hbw : b < w.heap.size := by
    obtain ⟨b2, o2, e2, hb2, _⟩ := hl.at_ (by omega)
    injection e2 with e2; injection e2 with e2 e3; omega
  have c0 := hc 0 (by omega); rw [Nat.add_zero] at c0
  have wf : ∀ j, j < 20 → 0 ≤ l.getD j 0 ∧ l.getD j 0 ≤ 255 := fun j hj => u8Bd (hl.getD_wf j (by omega))
  have w0 := wf 0 (by omega)
  have hpt : (l.getD 0 0).tdiv 16 = l.getD 0 0 / 16 := Int.tdiv_eq_ediv_of_nonneg w0.1
  have hqt : (l.getD 0 0).tmod 16 = l.getD 0 0 % 16 := Int.tmod_eq_emod_of_nonneg w0.1
  have eh : hd l = l.getD 0 0 % 16 * 4 := rfl
  have et : tot l = l.getD 2 0 * 256 + l.getD 3 0 := rfl
  have x2 := wf 2 (by omega); have x3 := wf 3 (by omega)
  have T2 : ref.get2 l 2 = (((tot l).toNat : Nat) : Int) := by show l.getD 2 0 * 256 + l.getD 3 0 = _; omega
  have hof := ofs_okO (optD l)
  have hB := get2_bd l 6 (fun j hj => wf j (by omega))
  have ht : (ref.get2 l 6).tmod 8192 = ref.get2 l 6 % 8192 := Int.tmod_eq_emod_of_nonneg hB.1
  exact rOK w b off n c (l.getD 0 0) (l.getD 0 0 / 16) (l.getD 0 0 % 16) (hd l).toNat (tot l).toNat l hl (by omega) hn hnc hcm hbw c0 w0 rfl hpt rfl hqt (by omega) (by omega) a2 (by omega) (by omega) (by omega) (by omega) (hid T2) (hid a7) (ref.get2 l 6) (ref.get2 l 6 % 8192) _ (hid rfl) (hid rfl) hb2 (by rw [ho] at hof; exact hof) rfl ht (by omega) (by omega) _ _ _ _ _ _ _ _ (wf 1 (by omega)) (wf 8 (by omega)) (wf 9 (by omega)) (hid rfl) (hid rfl) (hid rfl) (hid rfl) (hid rfl) (hid rfl) (hid rfl) (hid rfl)
/-- What is read: a packet of these options and data, or none. -/
def dGp (l : List Int) (ov dv : Value) : Value := if dEp l = 0 then .agg #[.int .i64 (l.getD 1 0), .int .i64 (ref.get2 l 4), .bool (bits .and .i64 (ref.get2 l 6) 16384 != 0), .bool (bits .and .i64 (ref.get2 l 6) 8192 != 0), .int .i64 (ref.get2 l 6 % 8192 * 8), .int .i64 (l.getD 8 0), .int .i64 (l.getD 9 0), .int .u32 (ref.get4 l 12), .int .u32 (ref.get4 l 16), ov, dv] else .agg #[.int .i64 0, .int .i64 0, .bool false, .bool false, .int .i64 0, .int .i64 0, .int .i64 0, .int .u32 0, .int .u32 0, ov, dv]
def oL (l : List Int) : List Int := if dEp l = 0 then optD l else []
def dL (l : List Int) : List Int := if dEp l = 0 then datD l else []
theorem dGp_form (l : List Int) : ∃ (f0 f1 : Int) (f2 f3 : Bool) (f4 f5 f6 f7 f8 : Int), ∀ ov dv, dGp l ov dv = .agg #[.int .i64 f0, .int .i64 f1, .bool f2, .bool f3, .int .i64 f4, .int .i64 f5, .int .i64 f6, .int .u32 f7, .int .u32 f8, ov, dv] := by
  by_cases hz : dEp l = 0
  · exact ⟨_, _, _, _, _, _, _, _, _, fun ov dv => by unfold dGp; rw [if_pos hz]⟩
  · exact ⟨_, _, _, _, _, _, _, _, _, fun ov dv => by unfold dGp; rw [if_neg hz]⟩
theorem lens (l : List Int) : (oL l).length ≤ l.length ∧ (dL l).length ≤ l.length := by
  unfold oL dL optD datD
  split
  · simp only [List.length_drop, List.length_take]; omega
  · simp
theorem decGen (w : World) (A : Option Addr) (n c : Nat) (l : List Int) (hl : Rd .u8 w A n l) (hnc : n ≤ c) (hcm : c ≤ maxLen) (hn : n ≤ 70000) : Calls Tryd.prog 18 #[.slice A n c] w fun x w' => ∃ ov dv, ∃ t : Nat, x = .returned (.tuple #[dGp l ov dv, .int .i64 (dEp l)]) ∧ Own .u8 5 w' w.heap.size ov (oL l) ∧ Own .u8 5 w' t dv (dL l) ∧ (∀ k ∈ ov.ownBlock.toList, k < t) ∧ w.heap.size ≤ t ∧ Only [] w w' := by
  by_cases hz : dEp l = 0
  · refine (decOk w A n c l hl hnc hcm hn hz).mono ?_
    rintro x w' ⟨ov, dv, t, rfl, h1, h2, h3, h4, h5⟩
    exact ⟨ov, dv, t, by unfold dGp; rw [if_pos hz, hz], by unfold oL; rw [if_pos hz]; exact h1, by unfold dL; rw [if_pos hz]; exact h2, h3, h4, h5⟩
  · refine (decErr w A n c l hl hnc hcm hn hz).mono ?_
    rintro x w' ⟨rfl, h5⟩
    exact ⟨.slice none 0 0, .slice none 0 0, w.heap.size, by unfold dGp; rw [if_neg hz], by unfold oL; rw [if_neg hz]; exact Own.nil _ _ _ _, by unfold dL; rw [if_neg hz]; exact Own.nil _ _ _ _, (fun k hk => by cases hk), Nat.le_refl _, h5⟩
theorem rdecGen (w : World) (A : Option Addr) (n c : Nat) (l : List Int) (hl : Rd .u8 w A n l) (hnc : n ≤ c) (hcm : c ≤ maxLen) (hn : n ≤ 70000) : Calls Tryd.prog 19 #[.slice A n c] w fun x w' => ∃ ov dv, x = .returned (.tuple #[dGp l ov dv, .int .i64 (dEp l)]) ∧ Own .u8 5 w' w.heap.size ov (oL l) ∧ Own .u8 5 w' w.heap.size dv (dL l) ∧ Only [] w w' := by
  by_cases hz : dEp l = 0
  · refine (rdecOk w A n c l hl hnc hcm hn hz).mono ?_
    rintro x w' ⟨ov, dv, rfl, h1, h2, h5⟩
    exact ⟨ov, dv, by unfold dGp; rw [if_pos hz, hz], by unfold oL; rw [if_pos hz]; exact h1, by unfold dL; rw [if_pos hz]; exact h2, h5⟩
  · refine (rdecErr w A n c l hl hnc hcm hn hz).mono ?_
    rintro x w' ⟨rfl, h5⟩
    exact ⟨.slice none 0 0, .slice none 0 0, by unfold dGp; rw [if_neg hz], by unfold oL; rw [if_neg hz]; exact Own.nil _ _ _ _, by unfold dL; rw [if_neg hz]; exact Own.nil _ _ _ _, h5⟩
end Go.Proofs.YtaoeflngdlgboaaDoor.ip
