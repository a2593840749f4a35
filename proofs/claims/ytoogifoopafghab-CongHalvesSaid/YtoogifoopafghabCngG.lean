/-
  Chapter 16 (cong): what each function of the program and of the document's answer does to its object, by a walk of its text, part G. Conditions: the numbers of the object lie in their bounds.
-/
import Derived.Test.YtoogifoopafghabCngF
import Derived.Test.YtoogifoopafghabRec
namespace Go.Proofs.Ytoogifoopafghab.cng
set_option linter.unusedVariables false
set_option linter.unusedSimpArgs false
open Go.ChangeShapes Go.WideShapes Go.ChangeAt Go.RowKit Go.IntWalk Go.Lib
theorem acked_nil (w : World) (n una : Int) : Calls Try.prog 36 #[.pointer none, .int .i64 n, .int .u32 una] w fun e w' => e = .returned (.bool false) ∧ w' = w := by
  go_enter Try.func36, Try.ntmps36
  go_wp2
  go_ret
  exact ⟨rfl, rfl⟩
theorem same_nil (w : World) (n una : Int) : Calls Try.prog 38 #[.pointer none, .int .i64 n, .int .u32 una] w fun e w' => e = .returned (.bool false) ∧ w' = w := by
  go_enter Try.func38, Try.ntmps38
  go_wp2
  go_ret
  exact ⟨rfl, rfl⟩
theorem win_nil (w : World) : Calls Try.prog 42 #[.pointer none] w fun e w' => e = .returned (.int .i64 0) ∧ w' = w := by
  go_enter Try.func42, Try.ntmps42
  go_wp2
  go_ret
  exact ⟨rfl, rfl⟩
theorem men_nil (w : World) : Calls Try.prog 43 #[.pointer none] w fun e w' => e = .returned (.bool false) ∧ w' = w := by
  go_enter Try.func43, Try.ntmps43
  go_wp2
  go_ret
  exact ⟨rfl, rfl⟩
theorem lost_nil (w : World) (n : Int) : Calls Try.prog 40 #[.pointer none, .int .i64 n] w fun e w' => e = .returned (.tuple #[]) ∧ w' = w := by
  go_enter Try.func40, Try.ntmps40
  go_wp2
  first
    | exact bodyPost_ret (results_none rfl _ _ _) rfl ⟨rfl, rfl⟩
    | exact bodyPost_end (results_none rfl _ _ _) rfl ⟨rfl, rfl⟩

theorem nilLaw (n una : Int) (w : World) : Calls Try.prog 13 #[.int .i64 n, .int .u32 una] w fun e w' => e = .returned (.bool true) ∧ Only [] w w' := by
  go_enter Try.func13, Try.ntmps13
  go_wp2_with (first | (go_at_call 40; refine (lost_nil _ _).mono ?_; rintro e w' ⟨rfl, rfl⟩) | (go_at_call 36; refine (acked_nil _ _ _).mono ?_; rintro e w' ⟨rfl, rfl⟩) | (go_at_call 38; refine (same_nil _ _ _).mono ?_; rintro e w' ⟨rfl, rfl⟩) | (go_at_call 42; refine (win_nil _).mono ?_; rintro e w' ⟨rfl, rfl⟩) | (go_at_call 43; refine (men_nil _).mono ?_; rintro e w' ⟨rfl, rfl⟩) | (go_at_call 35; refine (known _).mono ?_; rintro e w2 ⟨rfl, hk⟩))
  go_ret
  exact ⟨rfl, by assumption⟩
theorem halvesOut (m f nx : Int) (w : World) (h : m < 1 ∨ 65535 < m ∨ f < 0 ∨ 8388608 < f) : Calls Try.prog 12 #[.int .i64 m, .int .i64 f, .int .u32 nx] w fun e w' => e = .returned (.bool true) ∧ Only [] w w' := by
  go_enter Try.func12, Try.ntmps12
  go_wp2_with (go_at_call 35; refine (known _).mono ?_; rintro e w2 ⟨rfl, hk⟩)
  all_goals first
    | (go_ret; exact ⟨rfl, by assumption⟩)
    | (exfalso; omega)
set_option maxHeartbeats 2000000 in
theorem halvesSmall (m f nx hv : Int) (w : World) (h : 1 ≤ m ∧ m ≤ 65535) (hf : 0 ≤ f ∧ f ≤ 8388608) (hvv : f / 2 < 2 * m) (E1 : Hid (halfF m f = hv)) (E2 : Hid (hv = 2 * m)) : Calls Try.prog 12 #[.int .i64 m, .int .i64 f, .int .u32 nx] w fun e w' => e = .returned (.bool true) ∧ Only [] w w' := by
  have E3 : Hid (clampW (hv + 3 * m) = hv + 3 * m) := hid (by have := E2.out; unfold clampW; omega)
  have E4 : Hid (clampW hv = hv) := hid (by have := E2.out; unfold clampW; omega)
  have hl : lessB nx nx = false := by unfold lessB dif; simp
  obtain rfl : hv = 2 * m := E2.out
  go_enter Try.func12, Try.ntmps12
  go_wp2_with fail
  refine (newGood m w (by omega) (by omega)).mono ?_
  rintro e w1 ⟨c, g, rfl, hF⟩
  have HF := hid hF; clear hF
  have HL := hid hl; clear hl
  have HG : Hid (c ∉ [g]) := hid (by have := HF.out.old; simp; omega)
  go_wp2_with fail
  refine (sameN c g _ m (2 * m) 65535 0 0 f nx _ HF.out.cob HF.out.snd HF.out.old.2.2 (by omega) (by omega)).mono ?_
  rintro e w4 ⟨rfl, o4, h4⟩
  have H4 := hid h4; have O4 : Hid (Only [] w w4) := hid (fresh1 HF.out.only HF.out.old.1 o4); have HC4 := hid (Ob.only HF.out.cob o4 HG.out); clear h4 o4
  go_wp2_with fail
  refine (sameN c g _ m (2 * m) 65535 1 0 f nx _ HC4.out H4.out HF.out.old.2.2 (by omega) (by omega)).mono ?_
  rintro e w5 ⟨rfl, o5, h5⟩
  have H5 := hid h5; have O5 : Hid (Only [] w w5) := hid (fresh1 O4.out HF.out.old.1 o5); have HC5 := hid (Ob.only HC4.out o5 HG.out); clear h5 o5
  go_wp2_with fail
  refine (sameY c g _ m (2 * m) 65535 0 f nx _ HC5.out H5.out HF.out.old.2.2 (by omega) (by omega)).mono ?_
  rintro e w6 ⟨rfl, o6, h6⟩
  rw [E1.out, E3.out] at h6
  have H6 := hid h6; have O6 : Hid (Only [] w w6) := hid (fresh1 O5.out HF.out.old.1 o6); have HC6 := hid (Ob.only HC5.out o6 HG.out); clear h6 o6
  go_wp2_with fail
  refine (men1 c g _ _ _ _ _ _ _ _ _ HC6.out H6.out).mono ?_
  rintro e w8 ⟨rfl, n8, rfl⟩
  go_wp2_with fail
  refine (win1 c g _ _ _ _ _ _ _ _ _ (HC6.out.drewN _) (H6.out.drewN _)).mono ?_
  rintro e w9 ⟨rfl, n9, rfl⟩
  go_wp2_with fail
  refine (ackedMO c g _ m _ _ 3 nx 0 nx _ (HC6.out.drewN _) (H6.out.drewN _) HF.out.old.2.2 (by omega) HL.out).mono ?_
  rintro e w7 ⟨rfl, o7, h7⟩
  rw [E4.out] at h7
  have H7 := hid h7; have O7 : Hid (Only [] w w7) := hid (fresh1 (O6.out.drewN _) HF.out.old.1 o7); have HC7 := hid (Ob.only (HC6.out.drewN _) o7 HG.out); clear h7 o7
  go_wp2_with fail
  refine (men1 c g _ _ _ _ _ _ _ _ _ HC7.out H7.out).mono ?_
  rintro e wA ⟨rfl, nA, rfl⟩
  go_wp2_with fail
  refine (win1 c g _ _ _ _ _ _ _ _ _ (HC7.out.drewN _) (H7.out.drewN _)).mono ?_
  rintro e wB ⟨rfl, nB, rfl⟩
  go_wp2_with fail
  refine (lost1 c g _ m _ _ _ _ f false _ _ (HC7.out.drewN _) (H7.out.drewN _) h (by omega) HF.out.old.2.2).mono ?_
  rintro e wC ⟨rfl, o8, h8⟩
  have H8 := hid h8; have O8 : Hid (Only [] w wC) := hid (fresh1 (O7.out.drewN _) HF.out.old.1 o8); have HC8 := hid (Ob.only (HC7.out.drewN _) o8 HG.out); clear h8 o8
  go_wp2_with fail
  refine (win1 c g _ _ _ _ _ _ _ _ _ HC8.out H8.out).mono ?_
  rintro e wD ⟨rfl, nD, rfl⟩
  go_wp2_with fail
  refine (known _).mono ?_
  rintro e wE ⟨rfl, oE⟩
  have OE := hid oE; clear oE
  go_wp2
  go_ret
  exact ⟨rfl, (O8.out.drewN _).trans OE.out⟩
set_option maxHeartbeats 2000000 in
theorem halvesBig (m f nx hv : Int) (w : World) (h : 1 ≤ m ∧ m ≤ 65535) (hf : 0 ≤ f ∧ f ≤ 8388608) (hvv : ¬ f / 2 < 2 * m) (E1 : Hid (halfF m f = hv)) (E2 : Hid (hv = f / 2)) : Calls Try.prog 12 #[.int .i64 m, .int .i64 f, .int .u32 nx] w fun e w' => e = .returned (.bool true) ∧ Only [] w w' := by
  have E3 : Hid (clampW (hv + 3 * m) = hv + 3 * m) := hid (by have := E2.out; unfold clampW; omega)
  have E4 : Hid (clampW hv = hv) := hid (by have := E2.out; unfold clampW; omega)
  have hl : lessB nx nx = false := by unfold lessB dif; simp
  obtain rfl : hv = f / 2 := E2.out
  go_enter Try.func12, Try.ntmps12
  go_wp2_with fail
  refine (newGood m w (by omega) (by omega)).mono ?_
  rintro e w1 ⟨c, g, rfl, hF⟩
  have HF := hid hF; clear hF
  have HL := hid hl; clear hl
  have HG : Hid (c ∉ [g]) := hid (by have := HF.out.old; simp; omega)
  go_wp2_with fail
  refine (sameN c g _ m (2 * m) 65535 0 0 f nx _ HF.out.cob HF.out.snd HF.out.old.2.2 (by omega) (by omega)).mono ?_
  rintro e w4 ⟨rfl, o4, h4⟩
  have H4 := hid h4; have O4 : Hid (Only [] w w4) := hid (fresh1 HF.out.only HF.out.old.1 o4); have HC4 := hid (Ob.only HF.out.cob o4 HG.out); clear h4 o4
  go_wp2_with fail
  refine (sameN c g _ m (2 * m) 65535 1 0 f nx _ HC4.out H4.out HF.out.old.2.2 (by omega) (by omega)).mono ?_
  rintro e w5 ⟨rfl, o5, h5⟩
  have H5 := hid h5; have O5 : Hid (Only [] w w5) := hid (fresh1 O4.out HF.out.old.1 o5); have HC5 := hid (Ob.only HC4.out o5 HG.out); clear h5 o5
  go_wp2_with fail
  refine (sameY c g _ m (2 * m) 65535 0 f nx _ HC5.out H5.out HF.out.old.2.2 (by omega) (by omega)).mono ?_
  rintro e w6 ⟨rfl, o6, h6⟩
  rw [E1.out, E3.out] at h6
  have H6 := hid h6; have O6 : Hid (Only [] w w6) := hid (fresh1 O5.out HF.out.old.1 o6); have HC6 := hid (Ob.only HC5.out o6 HG.out); clear h6 o6
  go_wp2_with fail
  refine (men1 c g _ _ _ _ _ _ _ _ _ HC6.out H6.out).mono ?_
  rintro e w8 ⟨rfl, n8, rfl⟩
  go_wp2_with fail
  refine (win1 c g _ _ _ _ _ _ _ _ _ (HC6.out.drewN _) (H6.out.drewN _)).mono ?_
  rintro e w9 ⟨rfl, n9, rfl⟩
  go_wp2_with fail
  refine (ackedMO c g _ m _ _ 3 nx 0 nx _ (HC6.out.drewN _) (H6.out.drewN _) HF.out.old.2.2 (by omega) HL.out).mono ?_
  rintro e w7 ⟨rfl, o7, h7⟩
  rw [E4.out] at h7
  have H7 := hid h7; have O7 : Hid (Only [] w w7) := hid (fresh1 (O6.out.drewN _) HF.out.old.1 o7); have HC7 := hid (Ob.only (HC6.out.drewN _) o7 HG.out); clear h7 o7
  go_wp2_with fail
  refine (men1 c g _ _ _ _ _ _ _ _ _ HC7.out H7.out).mono ?_
  rintro e wA ⟨rfl, nA, rfl⟩
  go_wp2_with fail
  refine (win1 c g _ _ _ _ _ _ _ _ _ (HC7.out.drewN _) (H7.out.drewN _)).mono ?_
  rintro e wB ⟨rfl, nB, rfl⟩
  go_wp2_with fail
  refine (lost1 c g _ m _ _ _ _ f false _ _ (HC7.out.drewN _) (H7.out.drewN _) h (by omega) HF.out.old.2.2).mono ?_
  rintro e wC ⟨rfl, o8, h8⟩
  have H8 := hid h8; have O8 : Hid (Only [] w wC) := hid (fresh1 (O7.out.drewN _) HF.out.old.1 o8); have HC8 := hid (Ob.only (HC7.out.drewN _) o8 HG.out); clear h8 o8
  go_wp2_with fail
  refine (win1 c g _ _ _ _ _ _ _ _ _ HC8.out H8.out).mono ?_
  rintro e wD ⟨rfl, nD, rfl⟩
  go_wp2_with fail
  refine (known _).mono ?_
  rintro e wE ⟨rfl, oE⟩
  have OE := hid oE; clear oE
  go_wp2
  go_ret
  exact ⟨rfl, (O8.out.drewN _).trans OE.out⟩
theorem halvesLaw (m f nx : Int) (w : World) : Calls Try.prog 12 #[.int .i64 m, .int .i64 f, .int .u32 nx] w fun e w' => e = .returned (.bool true) ∧ Only [] w w' := by
  by_cases h : m < 1 ∨ 65535 < m ∨ f < 0 ∨ 8388608 < f
  · exact halvesOut m f nx w h
  · by_cases hh : f / 2 < 2 * m
    · exact halvesSmall m f nx (2 * m) w (by omega) (by omega) hh (by show halfF m f = 2 * m; unfold halfF; omega) rfl
    · exact halvesBig m f nx (f / 2) w (by omega) (by omega) hh (by show halfF m f = f / 2; unfold halfF; omega) rfl
end Go.Proofs.Ytoogifoopafghab.cng
