/-
  Chapter 16 (cong): what each function of the program and of the document's answer does to its object, by a walk of its text, part C. Conditions: the numbers of the object lie in their bounds.
-/
import Derived.Test.YtoogifoopafghabCngB
namespace Go.Proofs.Ytoogifoopafghab.cng
set_option linter.unusedVariables false
set_option linter.unusedSimpArgs false
open Go.ChangeShapes Go.WideShapes Go.ChangeAt Go.RowKit Go.IntWalk Go.Lib
theorem halfF_bd (m f : Int) (hm : 1 ≤ m ∧ m ≤ 65535) (hf : f ≤ 9223372036854775807) : 2 * m ≤ halfF m f ∧ halfF m f ≤ 4611686018427387904 := by unfold halfF; omega
theorem sameOpenNo (g : Nat) (w : World) (m win thr rep un f nx : Int) (mend : Bool) (k l : Nat) (h : Snd w g m win thr rep un mend k l) (hr : 0 ≤ rep ∧ rep ≤ 1) :
   Calls Try.prog 57 #[.pointer (some ⟨g, 0, none⟩), .int .i64 f, .int .u32 nx] w fun e w' => e = .returned (.bool false) ∧ Only [g] w w' ∧ Snd w' g m win thr (rep + 1) un mend k l := by
  have h0 := h.cell 0
  have h1 := h.cell 1
  have h2 := h.cell 2
  have h3 := h.cell 3
  have h4 := h.cell 4
  have h5 := h.cell 5
  have h6 := h.cell 6
  have h7 := h.cell 7
  have f3 := h.frozen 3
  have H := hid h; clear h
  go_enter Try.func57, Try.ntmps57
  go_wp2
  go_ret
  exact ⟨rfl, (by repeat (first | exact Only.refl _ _ | refine Only.setCell ?_ (Or.inl (by simp)) _)), H.out.set 3 _⟩
set_option maxHeartbeats 1000000 in
theorem sameOpenYes (g : Nat) (w : World) (m win thr f nx un : Int) (mend : Bool) (k l : Nat) (h : Snd w g m win thr 2 un mend k l) (hm : 1 ≤ m ∧ m ≤ 65535) (hf : f ≤ 9223372036854775807) :
   Calls Try.prog 57 #[.pointer (some ⟨g, 0, none⟩), .int .i64 f, .int .u32 nx] w fun e w' => e = .returned (.bool true) ∧ Only [g] w w' ∧ Snd w' g m (halfF m f + 3 * m) (halfF m f) 3 nx true 62 63 := by
  have h0 := h.cell 0
  have h1 := h.cell 1
  have h2 := h.cell 2
  have h3 := h.cell 3
  have h4 := h.cell 4
  have h5 := h.cell 5
  have h6 := h.cell 6
  have h7 := h.cell 7
  have f1 := h.frozen 1
  have f2 := h.frozen 2
  have f3 := h.frozen 3
  have H := hid h; clear h
  have hb := halfF_bd m f hm hf
  go_enter Try.func57, Try.ntmps57
  go_wp2_with fail
  refine (half1 g _ m win thr 3 un f mend k l (H.out.set 3 _) hm hf).mono ?_
  rintro e w2 ⟨rfl, rfl⟩

  go_wp2_with fail
  refine stillTail 13 (by kernel_rfl) (by kernel_rfl) ?_
  intro W hW
  have o := Ob.eq_drew ((H.out.set 3 _).set 2 _) hW
  have hO : Hid (Only [g] w W) := hid (Only.eq_drew (by repeat (first | exact Only.refl _ _ | refine Only.setCell ?_ (Or.inl (by simp)) _ | refine Only.drewN ?_ _ | refine Only.drew ?_)) hW)
  have d0 := o.cell 0
  have d1 := o.cell 1
  have d2 := o.cell 2
  have d3 := o.cell 3
  have d4 := o.cell 4
  have d5 := o.cell 5
  have d6 := o.cell 6
  have d7 := o.cell 7
  have e1 := o.frozen 1
  have HO := hid o
  clear o
  clear hW
  simp only [List.take_succ_cons, List.take_zero, List.drop_succ_cons, List.drop_zero]
  repeat still_step
  refine wpStill_nil ?_
  go_wp2_with fail
  refine (mend1 g _ m _ _ 3 un nx mend k l (HO.out.set 1 _)).mono ?_
  rintro e w3 ⟨rfl, o3, h3⟩
  have H3 := hid h3; have O3 := hid o3; clear h3 o3
  go_wp2
  go_ret
  exact ⟨rfl, (hO.out.setCell (Or.inl (by simp)) _).trans O3.out, H3.out⟩
theorem sameMend1 (g : Nat) (w : World) (m win thr rep un f nx : Int) (mend : Bool) (k l : Nat) (h : Snd w g m win thr rep un mend k l) (hm : 1 ≤ m ∧ m ≤ 65535) (hr : 0 ≤ rep ∧ rep ≤ 1000) (hw : 0 ≤ win ∧ win ≤ 16777216) :
   Calls Try.prog 63 #[.pointer (some ⟨g, 0, none⟩), .int .i64 f, .int .u32 nx] w fun e w' => e = .returned (.bool false) ∧ Only [g] w w' ∧ Snd w' g m (win + m) thr (rep + 1) un mend k l := by
  have h0 := h.cell 0
  have h1 := h.cell 1
  have h2 := h.cell 2
  have h3 := h.cell 3
  have h4 := h.cell 4
  have h5 := h.cell 5
  have h6 := h.cell 6
  have h7 := h.cell 7
  have f1 := h.frozen 1
  have f3 := h.frozen 3
  have H := hid h; clear h
  go_enter Try.func63, Try.ntmps63
  go_wp2
  refine stillTail 11 (by kernel_rfl) (by kernel_rfl) ?_
  intro W hW
  have o := Ob.eq_drew (H.out.set 3 _) hW
  have hO : Hid (Only [g] w W) := hid (Only.eq_drew (by repeat (first | exact Only.refl _ _ | refine Only.setCell ?_ (Or.inl (by simp)) _ | refine Only.drewN ?_ _ | refine Only.drew ?_)) hW)
  have d0 := o.cell 0
  have d1 := o.cell 1
  have d2 := o.cell 2
  have d3 := o.cell 3
  have d4 := o.cell 4
  have d5 := o.cell 5
  have d6 := o.cell 6
  have d7 := o.cell 7
  have e1 := o.frozen 1
  have HO := hid o
  clear o
  clear hW
  simp only [List.take_succ_cons, List.take_zero, List.drop_succ_cons, List.drop_zero]
  repeat still_step
  refine wpStill_nil ?_
  go_wp2
  go_ret
  exact ⟨rfl, hO.out.setCell (Or.inl (by simp)) _, HO.out.set 1 _⟩
/-- The outer object: a pointer to the sender. -/
def Cob (w : World) (c g : Nat) : Prop := Ob w c 86 #[.pointer (some ⟨g, 0, none⟩)]
theorem win1 (c g : Nat) (w : World) (m win thr rep un : Int) (mend : Bool) (k l : Nat) (hc : Cob w c g) (h : Snd w g m win thr rep un mend k l) :
   Calls Try.prog 42 #[.pointer (some ⟨c, 0, none⟩)] w fun e w' => e = .returned (.int .i64 win) ∧ ∃ n, w' = w.drewN n := by
  have c0 := hc.cell 0
  have h0 := h.cell 0
  have h1 := h.cell 1
  have h2 := h.cell 2
  have h3 := h.cell 3
  have h4 := h.cell 4
  have h5 := h.cell 5
  have h6 := h.cell 6
  have h7 := h.cell 7
  clear h hc
  go_enter Try.func42, Try.ntmps42
  go_wp2
  try go_quiet (fail)
  try go_wp2
  go_ret
  exact ⟨rfl, by first | exact ⟨_, rfl⟩ | exact ⟨0, rfl⟩⟩
theorem men1 (c g : Nat) (w : World) (m win thr rep un : Int) (mend : Bool) (k l : Nat) (hc : Cob w c g) (h : Snd w g m win thr rep un mend k l) :
   Calls Try.prog 43 #[.pointer (some ⟨c, 0, none⟩)] w fun e w' => e = .returned (.bool mend) ∧ ∃ n, w' = w.drewN n := by
  have c0 := hc.cell 0
  have h0 := h.cell 0
  have h1 := h.cell 1
  have h2 := h.cell 2
  have h3 := h.cell 3
  have h4 := h.cell 4
  have h5 := h.cell 5
  have h6 := h.cell 6
  have h7 := h.cell 7
  clear h hc
  go_enter Try.func43, Try.ntmps43
  go_wp2
  try go_quiet (fail)
  try go_wp2
  go_ret
  exact ⟨rfl, by first | exact ⟨_, rfl⟩ | exact ⟨0, rfl⟩⟩
set_option maxHeartbeats 1000000 in
theorem lost1 (c g : Nat) (w : World) (m win thr rep un f : Int) (mend : Bool) (k l : Nat) (hc : Cob w c g) (h : Snd w g m win thr rep un mend k l) (hm : 1 ≤ m ∧ m ≤ 65535) (hf : f ≤ 9223372036854775807) (hg : g ≠ c) :
   Calls Try.prog 40 #[.pointer (some ⟨c, 0, none⟩), .int .i64 f] w fun e w' => e = .returned (.tuple #[]) ∧ Only [g] w w' ∧ Snd w' g m m (halfF m f) 0 un false 56 57 := by
  have c0 := hc.cell 0
  have H := hid h; have HC := hid hc; clear h hc
  go_enter Try.func40, Try.ntmps40
  go_wp2_with fail
  refine (open1 g _ m win thr rep un mend _ _ H.out).mono ?_
  rintro e w2 ⟨rfl, o2, h2⟩
  have c1 : w2.cell? ⟨c, 0, none⟩ = some (.pointer (some ⟨g, 0, none⟩)) := (HC.out.only o2 (by simpa using Ne.symm hg)).cell 0
  have HC2 := hid (HC.out.only o2 (by simpa using Ne.symm hg))
  have H2 := hid h2; have O2 := hid o2; clear h2 o2 c0
  have hb := halfF_bd m f hm hf
  go_wp2
  refine stillTail 12 (by kernel_rfl) (by kernel_rfl) ?_
  intro W hW
  have o := Ob.eq_drew (H2.out) hW
  have hO : Hid (Only [g] w W) := hid (Only.eq_drew (O2.out) hW)
  have d0 := o.cell 0
  have d1 := o.cell 1
  have d2 := o.cell 2
  have d3 := o.cell 3
  have d4 := o.cell 4
  have d5 := o.cell 5
  have d6 := o.cell 6
  have d7 := o.cell 7
  have e2 := o.frozen 2
  have HO := hid o
  clear o
  have q0 : W.cell? ⟨c, 0, none⟩ = some (.pointer (some ⟨g, 0, none⟩)) := (Ob.eq_drew HC2.out hW).cell 0
  have HC3 := hid (Ob.eq_drew HC2.out hW)
  clear hW
  simp only [List.take_succ_cons, List.take_zero, List.drop_succ_cons, List.drop_zero]
  repeat (first | still_step | still_call (half1 g _ m win thr 0 un f false _ _ HO.out hm hf))
  refine wpStill_nil ?_
  go_wp2
  clear d0 d1 d2 d3 d4 d5 d6 d7 e2
  have hO1 : Hid (Only [g] w W) := hO
  have HO1 := hid HO.out
  clear hO HO
  refine stillTail 13 (by kernel_rfl) (by kernel_rfl) ?_
  intro W2 hW
  have o := Ob.eq_drew (HO1.out.set 2 _) hW
  have hO : Hid (Only [g] w W2) := hid (Only.eq_drew (hO1.out.setCell (Or.inl (by simp)) _) hW)
  have d0 := o.cell 0
  have d1 := o.cell 1
  have d2 := o.cell 2
  have d3 := o.cell 3
  have d4 := o.cell 4
  have d5 := o.cell 5
  have d6 := o.cell 6
  have d7 := o.cell 7
  have e1 := o.frozen 1
  have HO := hid o
  clear o
  have q1 : W2.cell? ⟨c, 0, none⟩ = some (.pointer (some ⟨g, 0, none⟩)) := (Ob.eq_drew (HC3.out.far (p := ⟨g, 2, none⟩) (Ne.symm hg) _) hW).cell 0
  clear hW
  simp only [List.take_succ_cons, List.take_zero, List.drop_succ_cons, List.drop_zero]
  repeat still_step
  refine wpStill_nil ?_
  go_wp2
  refine bodyPost_end (results_none rfl _ _ _) rfl ?_
  exact ⟨rfl, hO.out.setCell (Or.inl (by simp)) _, HO.out.set 1 _⟩
end Go.Proofs.Ytoogifoopafghab.cng
