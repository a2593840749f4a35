/-
  Chapter 21 (name): the Data of an answer that was written, by a walk of its text. Conditions: none but those typed.
-/
import Derived.Test.YtfoecnlbiaiibaaNamBa
namespace Go.Proofs.Ytfoecnlbiaiibaa.nam
set_option linter.unusedVariables false
set_option linter.unusedSimpArgs false
open Go.ChangeShapes Go.WideShapes Go.ChangeAt Go.RowKit Go.IntWalk Go.Lib
set_option maxHeartbeats 2000000 in
theorem dataL (w : World) (b off n c : Nat) (B : List Int) (hB : Rd .u8 w (some ⟨b, off, none⟩) n B) (hnc : n ≤ c) (hcm : c ≤ maxLen) (hn : n ≤ 1000000000) (f t : Nat) (kind : Int) (hft : f ≤ t) (ht : t ≤ n) (d : List Int)
    (hk1 : kind = 1 → t = f + 4) (hk5 : kind = 5 → unp B (f : Int) = (d, (t : Int), 0) ∧ (∀ x ∈ d, 0 ≤ x ∧ x ≤ 255) ∧ d.length ≤ 253) (hk0 : kind ≠ 5 → (B.take t).drop f = d) :
    Calls Try.prog 59 #[.slice (some ⟨b, off, none⟩) n c, .int .i64 f, .int .i64 t, .int .i64 kind] w fun x w' => ∃ v, x = .returned (.tuple #[v, .int .i64 0]) ∧ DB w' v d ∧ Only [] w w' := by
  have HB := hid hB
  have HCM := hid hcm
  unfold maxLen at hcm
  have hsl : ∃ A' c', (∀ W : World, (Instr.slice 22 (.slice (some ⟨b, off, none⟩) n c) (some (.int .i64 (f : Int))) (some (.int .i64 (t : Int))) none).run Try.prog W = .ok (.slice A' (t - f) c') W) ∧ Rd .u8 w A' (t - f) ((B.take t).drop f) ∧ (A' = none → c' = 0) := by
    have h0 := (hB.take t (by omega)).drop f (by omega)
    by_cases hce : c = f
    · subst hce
      obtain rfl : t = c := by omega
      refine ⟨some ⟨b, off, none⟩, 0, fun W => ?_, ?_, by simp⟩
      · have e1 : n = t := by omega
        go_simp
      · rw [Nat.sub_self, List.drop_of_length_le (by rw [List.length_take]; omega)]; exact Rd.nil _ _ _
    · have g1 : ¬ (c : Int) = (f : Int) := by omega
      have g2 : (f : Int) ≤ (t : Int) := by omega
      have g3 : (t : Int) ≤ (c : Int) := by omega
      exact ⟨some ⟨b, off + f, none⟩, c - f, fun W => by go_simp, h0, by simp⟩
  by_cases h1 : kind = 1
  · subst h1
    have htf := hk1 rfl
    have HD : Hid ((B.take t).drop f = d) := hid (hk0 (by decide))
    have hrd := (hB.take t (by omega)).drop f (by omega)
    rw [HD.out, show t - f = 4 from by omega] at hrd
    have HRD := hid hrd
    have hs4 : (t : Int) - (f : Int) = 4 := by omega
    clear hk1 hk5 hk0 hB hrd hsl
    go_enter Try.func59, Try.ntmps59
    go_wp2_with fail
    refine (wrt.clone1 w (some ⟨b, off + f, none⟩) 4 (c - f) d HRD.out (by intro e; cases e) (by omega)).mono ?_
    rintro x w2 ⟨v, rfl, hv, o2⟩
    have HV := hid hv; have Q2 := hid o2
    clear hv o2
    go_wp2_with fail
    go_ret2
    exact ⟨v, rfl, DB.of_own HV.out, Q2.out⟩
  · by_cases h5 : kind = 5
    · subst h5
      obtain ⟨hu, hbd, hdl⟩ := hk5 rfl
      have HU := hid hu; have HBd := hid hbd
      obtain ⟨cap, r, W5, hcv, hbr, hoo, hcp⟩ := conv_of w 9 22 5 (strOfNums d) Try.underlying9 Try.underlying22 Try.underlying5
      clear hsl hk1 hk5 hk0 hB hu hbd hcv hbr hoo hcp W5 r cap
      go_enter Try.func59, Try.ntmps59
      go_wp2_with fail
      refine (unpL2 w (some ⟨b, off, none⟩) n c B f HB.out hnc HCM.out hn).mono ?_
      rw [HU.out]
      rintro x w2 ⟨rfl, o2⟩
      have Q2 := hid o2
      clear o2
      obtain ⟨cap, r, W5, hcv, hbr, hoo, hcp⟩ := conv_of w2 9 22 5 (strOfNums d) Try.underlying9 Try.underlying22 Try.underlying5
      rw [strOf_size] at hcv hcp
      rw [chs_nums d HBd.out] at hbr
      have Q5 : Hid (Only [] w W5) := hid (Q2.out.trans hoo.out)
      clear hoo
      go_wp2_with fail
      go_ret2
      exact ⟨_, rfl, DB.of_br hbr.out HBd.out hcp, Q5.out⟩
    · have HD : Hid ((B.take t).drop f = d) := hid (hk0 h5)
      obtain ⟨A', c', hsl, hrd, hc'⟩ := hsl
      rw [HD.out] at hrd
      have HRD := hid hrd; have HC' := hid hc'
      have h1b : (kind == 1) = false := by simpa using h1
      have h5b : (kind == 5) = false := by simpa using h5
      have d1 : decide (kind = 1) = false := decide_eq_false h1
      have d5 : decide (kind = 5) = false := decide_eq_false h5
      clear hk1 hk5 hk0 hB hrd hc'
      go_enter Try.func59, Try.ntmps59
      go_wp2_with fail
      refine (wrt.clone1 w A' (t - f) c' d HRD.out HC'.out (by omega)).mono ?_
      rintro x w2 ⟨v, rfl, hv, o2⟩
      have HV := hid hv; have Q2 := hid o2
      clear hv o2
      go_wp2_with fail
      go_ret2
      exact ⟨v, rfl, DB.of_own HV.out, Q2.out⟩
end Go.Proofs.Ytfoecnlbiaiibaa.nam
