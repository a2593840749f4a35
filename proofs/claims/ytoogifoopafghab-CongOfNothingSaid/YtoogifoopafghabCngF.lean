/-
  Chapter 16 (cong): what each function of the program and of the document's answer does to its object, by a walk of its text, part F. Conditions: the numbers of the object lie in their bounds.
-/
import Derived.Test.YtoogifoopafghabCngE
namespace Go.Proofs.Ytoogifoopafghab.cng
set_option linter.unusedVariables false
set_option linter.unusedSimpArgs false
open Go.ChangeShapes Go.WideShapes Go.ChangeAt Go.RowKit Go.IntWalk Go.Lib
/-- What is known of the numbers of both objects after i steps. -/
structure Inv (i : Nat) (m win thr rep un : Int) (mend : Bool) : Prop where
  m1 : 1 ≤ m ∧ m ≤ 65535
  w1 : m ≤ win ∧ win ≤ 16777216
  t1 : m ≤ thr ∧ thr ≤ 4611686018427387904
  r1 : 0 ≤ rep ∧ rep ≤ i
  r2 : mend = false → rep ≤ 2
def SndS (w : World) (g : Nat) (m win thr rep un : Int) (mend : Bool) : Prop := Snd w g m win thr rep un mend (if mend then 62 else 56) (if mend then 63 else 57)
theorem step_acked (i : Nat) (m win thr rep un : Int) (mend : Bool) (h : Inv i m win thr rep un mend) (n una : Int) (hn : n ≤ 9223372036854775807) :
    ∃ (b : Bool) (win' rep' : Int) (mend' : Bool), Inv (i + 1) m win' thr rep' un mend' ∧
      (∀ (w : World) (c g : Nat), Cob w c g → SndS w g m win thr rep un mend → g ≠ c → Calls Try.prog 36 #[.pointer (some ⟨c, 0, none⟩), .int .i64 n, .int .u32 una] w fun e w' => e = .returned (.bool b) ∧ Only [g] w w' ∧ SndS w' g m win' thr rep' un mend') ∧
      (∀ (w : World) (g : Nat), Ref w g m win thr rep un mend → Calls Try.prog 37 #[.pointer (some ⟨g, 0, none⟩), .int .i64 n, .int .u32 una] w fun e w' => e = .returned (.bool b) ∧ Only [g] w w' ∧ Ref w' g m win' thr rep' un mend') := by
  obtain ⟨m1, w1, t1, r1, r2⟩ := h
  have ht : 0 ≤ thr ∧ thr ≤ 4611686018427387904 := by omega
  cases mend
  · have hq := quo_bd m win m1 w1.1
    refine ⟨false, clampW (aoF m win thr (max n 0)), 0, false, ⟨m1, ?_, t1, by omega, by simp⟩, ?_, ?_⟩
    · unfold clampW aoF; split <;> omega
    · intro w c g hc hs hg
      exact ackedO c g w m win thr rep un n una 0 _ hc hs hg m1 w1 ht hn
    · intro w g hs
      exact racked1 g w m win thr rep un n una hs m1 w1 ht hn
  · cases hl : lessB una un
    · refine ⟨false, clampW thr, 0, false, ⟨m1, ?_, t1, by omega, by simp⟩, ?_, ?_⟩
      · unfold clampW; omega
      · intro w c g hc hs hg
        exact ackedMO c g w m win thr rep un n una _ hc hs hg ht hl
      · intro w g hs
        exact rackedO g w m win thr rep un n una hs ht hl
    · refine ⟨true, clampW (amF m win (max n 0)), rep, true, ⟨m1, ?_, t1, by omega, by simp⟩, ?_, ?_⟩
      · unfold clampW amF; omega
      · intro w c g hc hs hg
        exact ackedML c g w m win thr rep un n una _ hc hs hg m1 w1 hn hl
      · intro w g hs
        exact rackedL g w m win thr rep un n una hs m1 w1 hn hl
theorem step_same (i : Nat) (m win thr rep un : Int) (mend : Bool) (h : Inv i m win thr rep un mend) (hi : i ≤ 900) (f nx : Int) (hf : f ≤ 9223372036854775807) :
    ∃ (b : Bool) (win' thr' rep' un' : Int) (mend' : Bool), Inv (i + 1) m win' thr' rep' un' mend' ∧
      (∀ (w : World) (c g : Nat), Cob w c g → SndS w g m win thr rep un mend → g ≠ c → Calls Try.prog 38 #[.pointer (some ⟨c, 0, none⟩), .int .i64 f, .int .u32 nx] w fun e w' => e = .returned (.bool b) ∧ Only [g] w w' ∧ SndS w' g m win' thr' rep' un' mend') ∧
      (∀ (w : World) (g : Nat), Ref w g m win thr rep un mend → Calls Try.prog 39 #[.pointer (some ⟨g, 0, none⟩), .int .i64 f, .int .u32 nx] w fun e w' => e = .returned (.bool b) ∧ Only [g] w w' ∧ Ref w' g m win' thr' rep' un' mend') := by
  obtain ⟨m1, w1, t1, r1, r2⟩ := h
  cases mend
  · have r2' := r2 rfl
    by_cases hr : rep = 2
    · subst hr
      have hb := halfF_bd m f m1 hf
      refine ⟨true, clampW (halfF m f + 3 * m), halfF m f, 3, nx, true, ⟨m1, ?_, by omega, by omega, by simp⟩, ?_, ?_⟩
      · unfold clampW; omega
      · intro w c g hc hs hg
        exact sameY c g w m win thr un f nx _ hc hs hg m1 hf
      · intro w g hs
        exact rsameY g w m win thr un f nx hs m1 hf
    · refine ⟨false, win, thr, rep + 1, un, false, ⟨m1, w1, t1, by omega, by omega⟩, ?_, ?_⟩
      · intro w c g hc hs hg
        exact sameN c g w m win thr rep un f nx _ hc hs hg (by omega) (by omega)
      · intro w g hs
        exact rsameN g w m win thr rep un f nx hs (by omega)
  · refine ⟨false, clampW (win + m), thr, rep + 1, un, true, ⟨m1, ?_, t1, by omega, by simp⟩, ?_, ?_⟩
    · unfold clampW; omega
    · intro w c g hc hs hg
      exact sameM c g w m win thr rep un f nx _ hc hs hg m1 (by omega) (by omega)
    · intro w g hs
      exact rsameM g w m win thr rep un f nx hs m1 (by omega) (by omega)
theorem step_lost (i : Nat) (m win thr rep un : Int) (mend : Bool) (h : Inv i m win thr rep un mend) (f : Int) (hf : f ≤ 9223372036854775807) :
    ∃ (thr' : Int), Inv (i + 1) m m thr' 0 un false ∧
      (∀ (w : World) (c g : Nat), Cob w c g → SndS w g m win thr rep un mend → g ≠ c → Calls Try.prog 40 #[.pointer (some ⟨c, 0, none⟩), .int .i64 f] w fun e w' => e = .returned (.tuple #[]) ∧ Only [g] w w' ∧ SndS w' g m m thr' 0 un false) ∧
      (∀ (w : World) (g : Nat), Ref w g m win thr rep un mend → Calls Try.prog 41 #[.pointer (some ⟨g, 0, none⟩), .int .i64 f] w fun e w' => e = .returned (.tuple #[]) ∧ Only [g] w w' ∧ Ref w' g m m thr' 0 un false) := by
  obtain ⟨m1, w1, t1, r1, r2⟩ := h
  have hb := halfF_bd m f m1 hf
  refine ⟨halfF m f, ⟨m1, by omega, by omega, by omega, by simp⟩, ?_, ?_⟩
  · intro w c g hc hs hg
    exact lost1 c g w m win thr rep un f mend _ _ hc hs m1 hf hg
  · intro w g hs
    exact rlost1 g w m win thr rep un f mend hs m1 hf
theorem fresh1 {w a b : World} (h : Only [] w a) {g : Nat} (hg : w.heap.size ≤ g) (k : Only [g] a b) : Only [] w b := h.fresh k (by simpa using hg)
set_option maxHeartbeats 2000000 in
theorem known (w : World) : Calls Try.prog 35 #[] w fun e w' => e = .returned (.bool true) ∧ Only [] w w' := by
  go_enter Try.func35, Try.ntmps35
  go_wp2_with fail
  refine (newGood 100 w (by omega) (by omega)).mono ?_
  rintro e w1 ⟨c, g, rfl, hF⟩
  have HF := hid hF; clear hF
  go_wp2_with fail
  refine (ackedO c g _ 100 200 65535 0 0 100 1 0 _ HF.out.cob HF.out.snd HF.out.old.2.2 (by omega) (by omega) (by omega) (by omega)).mono ?_
  rintro e w2 ⟨rfl, o2, h2⟩
  rw [show clampW (aoF 100 200 65535 (max 100 0)) = 300 from by decide] at h2
  have hc2 := Ob.only HF.out.cob o2 (by have := HF.out.old; simp; omega)
  have H2 := hid h2; have O2 : Hid (Only [] w w2) := hid (fresh1 HF.out.only HF.out.old.1 o2); have HC2 := hid hc2; clear h2 o2 hc2
  go_wp2_with fail
  refine (win1 c g _ _ _ _ _ _ _ _ _ HC2.out H2.out).mono ?_
  rintro e w3 ⟨rfl, n3, rfl⟩
  go_wp2_with fail
  refine (sameN c g _ 100 300 65535 0 0 300 500 _ (HC2.out.drewN n3) (H2.out.drewN n3) HF.out.old.2.2 (by omega) (by omega)).mono ?_
  rintro e w4 ⟨rfl, o4, h4⟩
  have H4 := hid h4; have O4 : Hid (Only [] w w4) := hid (fresh1 (O2.out.drewN _) HF.out.old.1 o4); have HC4 := hid (Ob.only (HC2.out.drewN n3) o4 (by have := HF.out.old; simp; omega)); clear h4 o4
  go_wp2_with fail
  refine (sameN c g _ 100 300 65535 1 0 300 500 _ HC4.out H4.out HF.out.old.2.2 (by omega) (by omega)).mono ?_
  rintro e w5 ⟨rfl, o5, h5⟩
  have H5 := hid h5; have O5 : Hid (Only [] w w5) := hid (fresh1 O4.out HF.out.old.1 o5); have HC5 := hid (Ob.only HC4.out o5 (by have := HF.out.old; simp; omega)); clear h5 o5
  go_wp2_with fail
  refine (sameY c g _ 100 300 65535 0 300 500 _ HC5.out H5.out HF.out.old.2.2 (by omega) (by omega)).mono ?_
  rintro e w6 ⟨rfl, o6, h6⟩
  rw [show clampW (halfF 100 300 + 3 * 100) = 500 from by decide] at h6
  have H6 := hid h6; have O6 : Hid (Only [] w w6) := hid (fresh1 O5.out HF.out.old.1 o6); have HC6 := hid (Ob.only HC5.out o6 (by have := HF.out.old; simp; omega)); clear h6 o6
  go_wp2_with fail
  refine (win1 c g _ _ _ _ _ _ _ _ _ HC6.out H6.out).mono ?_
  rintro e w7 ⟨rfl, n7, rfl⟩
  go_wp2_with fail
  refine (men1 c g _ _ _ _ _ _ _ _ _ (HC6.out.drewN _) (H6.out.drewN _)).mono ?_
  rintro e w8 ⟨rfl, n8, rfl⟩
  go_wp2
  go_ret
  exact ⟨rfl, (O6.out.drewN _)⟩
end Go.Proofs.Ytoogifoopafghab.cng
