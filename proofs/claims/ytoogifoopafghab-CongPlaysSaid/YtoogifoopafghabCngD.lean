/-
  Chapter 16 (cong): what each function of the program and of the document's answer does to its object, by a walk of its text, part D. Conditions: the numbers of the object lie in their bounds.
-/
import Derived.Test.YtoogifoopafghabCngC
namespace Go.Proofs.Ytoogifoopafghab.cng
set_option linter.unusedVariables false
set_option linter.unusedSimpArgs false
open Go.ChangeShapes Go.WideShapes Go.ChangeAt Go.RowKit Go.IntWalk Go.Lib
def clampW (x : Int) : Int := min x 16777216
set_option maxHeartbeats 2000000 in
theorem ackedO (c g : Nat) (w : World) (m win thr rep un n una : Int) (k l : Nat) (hc : Cob w c g) (h : Snd w g m win thr rep un false 56 l) (hg : g ≠ c) (hm : 1 ≤ m ∧ m ≤ 65535) (hw : m ≤ win ∧ win ≤ 16777216) (ht : 0 ≤ thr ∧ thr ≤ 4611686018427387904) (hn : n ≤ 9223372036854775807) :
   Calls Try.prog 36 #[.pointer (some ⟨c, 0, none⟩), .int .i64 n, .int .u32 una] w fun e w' => e = .returned (.bool false) ∧ Only [g] w w' ∧ Snd w' g m (clampW (aoF m win thr (max n 0))) thr 0 un false 56 l := by
  have c0 := hc.cell 0
  have h0 := h.cell 0
  have h1 := h.cell 1
  have h2 := h.cell 2
  have h3 := h.cell 3
  have h4 := h.cell 4
  have h5 := h.cell 5
  have h6 : w.cell? ⟨g, 6, none⟩ = some (.func (.func 56) #[.pointer (some ⟨g, 0, none⟩)] #[]) := h.cell 6
  have H := hid h; have HC := hid hc; clear h hc
  have hq := quo_bd m win hm hw.1
  have HCl : Hid (∀ x, clampW x = min x 16777216) := hid fun _ => rfl
  have hbd : ∀ x, 0 ≤ x → 1 ≤ aoF m win thr x ∧ aoF m win thr x ≤ 33554432 := by intro x hx; unfold aoF; split <;> omega
  have HBD := hid hbd; clear hbd
  by_cases hneg : n < 0
  · rw [show max n 0 = 0 from by omega]
    have hb := HBD.out 0 (by omega)
    go_enter Try.func36, Try.ntmps36
    go_wp2_with fail
    refine (ackedOpen1 g _ m win thr rep un 0 una false _ l H.out hm hw ht (by omega)).mono ?_
    rintro e w2 ⟨rfl, o2, h2⟩
    have HC2 := hid (Ob.only HC.out o2 (by simpa using Ne.symm hg))
    have c1 := HC2.out.cell 0
    have H2 := hid h2; have O2 := hid o2; clear h2 o2 c0
    go_wp2
    refine stillTail 14 (by kernel_rfl) (by kernel_rfl) ?_
    intro W hW
    have o := Ob.eq_drew (H2.out) hW
    have hO : Hid (Only [g] w W) := hid (Only.eq_drew (O2.out) hW)
    have d0 := o.cell 0
    have d1 := o.cell 1
    have d2 := o.cell 2
    have d3 := o.cell 3
    have d4 := o.cell 4
    have d5 := o.cell 5
    have d6 := o.cell 6
    have d7 := o.cell 7
    have e1 := o.frozen 1
    have HO := hid o
    clear o
    have q0 : W.cell? ⟨c, 0, none⟩ = some (.pointer (some ⟨g, 0, none⟩)) := (Ob.eq_drew HC2.out hW).cell 0
    clear hW
    simp only [List.take_succ_cons, List.take_zero, List.drop_succ_cons, List.drop_zero]
    repeat still_step
    refine wpStill_nil ?_
    go_wp2
    all_goals
      go_ret
      exact ⟨rfl, hO.out.setCell (Or.inl (by simp)) _, Snd.mk (HO.out.set 1 _) rfl (by rw [HCl.out]; omega) rfl rfl rfl rfl rfl rfl⟩
  · rw [show max n 0 = n from by omega]
    have hb := HBD.out n (by omega)
    go_enter Try.func36, Try.ntmps36
    go_wp2_with fail
    refine (ackedOpen1 g _ m win thr rep un n una false _ l H.out hm hw ht (by omega)).mono ?_
    rintro e w2 ⟨rfl, o2, h2⟩
    have HC2 := hid (Ob.only HC.out o2 (by simpa using Ne.symm hg))
    have c1 := HC2.out.cell 0
    have H2 := hid h2; have O2 := hid o2; clear h2 o2 c0
    go_wp2
    refine stillTail 14 (by kernel_rfl) (by kernel_rfl) ?_
    intro W hW
    have o := Ob.eq_drew (H2.out) hW
    have hO : Hid (Only [g] w W) := hid (Only.eq_drew (O2.out) hW)
    have d0 := o.cell 0
    have d1 := o.cell 1
    have d2 := o.cell 2
    have d3 := o.cell 3
    have d4 := o.cell 4
    have d5 := o.cell 5
    have d6 := o.cell 6
    have d7 := o.cell 7
    have e1 := o.frozen 1
    have HO := hid o
    clear o
    have q0 : W.cell? ⟨c, 0, none⟩ = some (.pointer (some ⟨g, 0, none⟩)) := (Ob.eq_drew HC2.out hW).cell 0
    clear hW
    simp only [List.take_succ_cons, List.take_zero, List.drop_succ_cons, List.drop_zero]
    repeat still_step
    refine wpStill_nil ?_
    go_wp2
    all_goals
      go_ret
      exact ⟨rfl, hO.out.setCell (Or.inl (by simp)) _, Snd.mk (HO.out.set 1 _) rfl (by rw [HCl.out]; omega) rfl rfl rfl rfl rfl rfl⟩
set_option maxHeartbeats 2000000 in
theorem ackedML (c g : Nat) (w : World) (m win thr rep un n una : Int) (l : Nat) (hc : Cob w c g) (h : Snd w g m win thr rep un true 62 l) (hg : g ≠ c) (hm : 1 ≤ m ∧ m ≤ 65535) (hw : m ≤ win ∧ win ≤ 16777216) (hn : n ≤ 9223372036854775807) (hl : lessB una un = true) :
   Calls Try.prog 36 #[.pointer (some ⟨c, 0, none⟩), .int .i64 n, .int .u32 una] w fun e w' => e = .returned (.bool true) ∧ Only [g] w w' ∧ Snd w' g m (clampW (amF m win (max n 0))) thr rep un true 62 l := by
  have c0 := hc.cell 0
  have h0 := h.cell 0
  have h1 := h.cell 1
  have h2 := h.cell 2
  have h3 := h.cell 3
  have h4 := h.cell 4
  have h5 := h.cell 5
  have h6 : w.cell? ⟨g, 6, none⟩ = some (.func (.func 62) #[.pointer (some ⟨g, 0, none⟩)] #[]) := h.cell 6
  have H := hid h; have HC := hid hc; clear h hc
  have HCl : Hid (∀ x, clampW x = min x 16777216) := hid fun _ => rfl
  have hbd : ∀ x, 0 ≤ x → 1 ≤ amF m win x ∧ amF m win x ≤ 33554432 := by intro x hx; unfold amF; omega
  have HBD := hid hbd; clear hbd
  by_cases hneg : n < 0
  · rw [show max n 0 = 0 from by omega]
    have hb := HBD.out 0 (by omega)
    go_enter Try.func36, Try.ntmps36
    go_wp2_with fail
    refine (ackedMendLess g _ m win thr rep un 0 una true _ l H.out hm hw (by omega) hl).mono ?_
    rintro e w2 ⟨rfl, o2, h2⟩
    have HC2 := hid (Ob.only HC.out o2 (by simpa using Ne.symm hg))
    have c1 := HC2.out.cell 0
    have H2 := hid h2; have O2 := hid o2; clear h2 o2 c0
    go_wp2
    refine stillTail 14 (by kernel_rfl) (by kernel_rfl) ?_
    intro W hW
    have o := Ob.eq_drew (H2.out) hW
    have hO : Hid (Only [g] w W) := hid (Only.eq_drew (O2.out) hW)
    have d0 := o.cell 0
    have d1 := o.cell 1
    have d2 := o.cell 2
    have d3 := o.cell 3
    have d4 := o.cell 4
    have d5 := o.cell 5
    have d6 := o.cell 6
    have d7 := o.cell 7
    have e1 := o.frozen 1
    have HO := hid o
    clear o
    have q0 : W.cell? ⟨c, 0, none⟩ = some (.pointer (some ⟨g, 0, none⟩)) := (Ob.eq_drew HC2.out hW).cell 0
    clear hW
    simp only [List.take_succ_cons, List.take_zero, List.drop_succ_cons, List.drop_zero]
    repeat still_step
    refine wpStill_nil ?_
    go_wp2
    all_goals
      go_ret
      exact ⟨rfl, hO.out.setCell (Or.inl (by simp)) _, Snd.mk (HO.out.set 1 _) rfl (by rw [HCl.out]; omega) rfl rfl rfl rfl rfl rfl⟩
  · rw [show max n 0 = n from by omega]
    have hb := HBD.out n (by omega)
    go_enter Try.func36, Try.ntmps36
    go_wp2_with fail
    refine (ackedMendLess g _ m win thr rep un n una true _ l H.out hm hw (by omega) hl).mono ?_
    rintro e w2 ⟨rfl, o2, h2⟩
    have HC2 := hid (Ob.only HC.out o2 (by simpa using Ne.symm hg))
    have c1 := HC2.out.cell 0
    have H2 := hid h2; have O2 := hid o2; clear h2 o2 c0
    go_wp2
    refine stillTail 14 (by kernel_rfl) (by kernel_rfl) ?_
    intro W hW
    have o := Ob.eq_drew (H2.out) hW
    have hO : Hid (Only [g] w W) := hid (Only.eq_drew (O2.out) hW)
    have d0 := o.cell 0
    have d1 := o.cell 1
    have d2 := o.cell 2
    have d3 := o.cell 3
    have d4 := o.cell 4
    have d5 := o.cell 5
    have d6 := o.cell 6
    have d7 := o.cell 7
    have e1 := o.frozen 1
    have HO := hid o
    clear o
    have q0 : W.cell? ⟨c, 0, none⟩ = some (.pointer (some ⟨g, 0, none⟩)) := (Ob.eq_drew HC2.out hW).cell 0
    clear hW
    simp only [List.take_succ_cons, List.take_zero, List.drop_succ_cons, List.drop_zero]
    repeat still_step
    refine wpStill_nil ?_
    go_wp2
    all_goals
      go_ret
      exact ⟨rfl, hO.out.setCell (Or.inl (by simp)) _, Snd.mk (HO.out.set 1 _) rfl (by rw [HCl.out]; omega) rfl rfl rfl rfl rfl rfl⟩
set_option maxHeartbeats 2000000 in
theorem ackedMO (c g : Nat) (w : World) (m win thr rep un n una : Int) (l : Nat) (hc : Cob w c g) (h : Snd w g m win thr rep un true 62 l) (hg : g ≠ c) (ht : 0 ≤ thr ∧ thr ≤ 4611686018427387904) (hl : lessB una un = false) :
   Calls Try.prog 36 #[.pointer (some ⟨c, 0, none⟩), .int .i64 n, .int .u32 una] w fun e w' => e = .returned (.bool false) ∧ Only [g] w w' ∧ Snd w' g m (clampW thr) thr 0 un false 56 57 := by
  have c0 := hc.cell 0
  have h0 := h.cell 0
  have h1 := h.cell 1
  have h2 := h.cell 2
  have h3 := h.cell 3
  have h4 := h.cell 4
  have h5 := h.cell 5
  have h6 : w.cell? ⟨g, 6, none⟩ = some (.func (.func 62) #[.pointer (some ⟨g, 0, none⟩)] #[]) := h.cell 6
  have H := hid h; have HC := hid hc; clear h hc
  have HCl : Hid (∀ x, clampW x = min x 16777216) := hid fun _ => rfl
  by_cases hneg : n < 0
  · skip
    go_enter Try.func36, Try.ntmps36
    go_wp2_with fail
    refine (ackedMendOver g _ m win thr rep un 0 una true _ l H.out hl).mono ?_
    rintro e w2 ⟨rfl, o2, h2⟩
    have HC2 := hid (Ob.only HC.out o2 (by simpa using Ne.symm hg))
    have c1 := HC2.out.cell 0
    have H2 := hid h2; have O2 := hid o2; clear h2 o2 c0
    go_wp2
    refine stillTail 14 (by kernel_rfl) (by kernel_rfl) ?_
    intro W hW
    have o := Ob.eq_drew (H2.out) hW
    have hO : Hid (Only [g] w W) := hid (Only.eq_drew (O2.out) hW)
    have d0 := o.cell 0
    have d1 := o.cell 1
    have d2 := o.cell 2
    have d3 := o.cell 3
    have d4 := o.cell 4
    have d5 := o.cell 5
    have d6 := o.cell 6
    have d7 := o.cell 7
    have e1 := o.frozen 1
    have HO := hid o
    clear o
    have q0 : W.cell? ⟨c, 0, none⟩ = some (.pointer (some ⟨g, 0, none⟩)) := (Ob.eq_drew HC2.out hW).cell 0
    clear hW
    simp only [List.take_succ_cons, List.take_zero, List.drop_succ_cons, List.drop_zero]
    repeat still_step
    refine wpStill_nil ?_
    go_wp2
    all_goals
      go_ret
      exact ⟨rfl, hO.out.setCell (Or.inl (by simp)) _, Snd.mk (HO.out.set 1 _) rfl (by rw [HCl.out]; omega) rfl rfl rfl rfl rfl rfl⟩
  · skip
    go_enter Try.func36, Try.ntmps36
    go_wp2_with fail
    refine (ackedMendOver g _ m win thr rep un n una true _ l H.out hl).mono ?_
    rintro e w2 ⟨rfl, o2, h2⟩
    have HC2 := hid (Ob.only HC.out o2 (by simpa using Ne.symm hg))
    have c1 := HC2.out.cell 0
    have H2 := hid h2; have O2 := hid o2; clear h2 o2 c0
    go_wp2
    refine stillTail 14 (by kernel_rfl) (by kernel_rfl) ?_
    intro W hW
    have o := Ob.eq_drew (H2.out) hW
    have hO : Hid (Only [g] w W) := hid (Only.eq_drew (O2.out) hW)
    have d0 := o.cell 0
    have d1 := o.cell 1
    have d2 := o.cell 2
    have d3 := o.cell 3
    have d4 := o.cell 4
    have d5 := o.cell 5
    have d6 := o.cell 6
    have d7 := o.cell 7
    have e1 := o.frozen 1
    have HO := hid o
    clear o
    have q0 : W.cell? ⟨c, 0, none⟩ = some (.pointer (some ⟨g, 0, none⟩)) := (Ob.eq_drew HC2.out hW).cell 0
    clear hW
    simp only [List.take_succ_cons, List.take_zero, List.drop_succ_cons, List.drop_zero]
    repeat still_step
    refine wpStill_nil ?_
    go_wp2
    all_goals
      go_ret
      exact ⟨rfl, hO.out.setCell (Or.inl (by simp)) _, Snd.mk (HO.out.set 1 _) rfl (by rw [HCl.out]; omega) rfl rfl rfl rfl rfl rfl⟩
set_option maxHeartbeats 2000000 in
theorem sameN (c g : Nat) (w : World) (m win thr rep un f nx : Int) (k : Nat) (hc : Cob w c g) (h : Snd w g m win thr rep un false k 57) (hg : g ≠ c) (hr : 0 ≤ rep ∧ rep ≤ 1) (hw : 0 ≤ win ∧ win ≤ 16777216) :
   Calls Try.prog 38 #[.pointer (some ⟨c, 0, none⟩), .int .i64 f, .int .u32 nx] w fun e w' => e = .returned (.bool false) ∧ Only [g] w w' ∧ Snd w' g m win thr (rep + 1) un false k 57 := by
  have c0 := hc.cell 0
  have h0 := h.cell 0
  have h1 := h.cell 1
  have h2 := h.cell 2
  have h3 := h.cell 3
  have h4 := h.cell 4
  have h5 := h.cell 5
  have h7 : w.cell? ⟨g, 7, none⟩ = some (.func (.func 57) #[.pointer (some ⟨g, 0, none⟩)] #[]) := h.cell 7
  have H := hid h; have HC := hid hc; clear h hc
  have hx : True := trivial
  · skip
    go_enter Try.func38, Try.ntmps38
    go_wp2_with fail
    refine (sameOpenNo g _ m win thr rep un f nx false k _ H.out hr).mono ?_
    rintro e w2 ⟨rfl, o2, h2⟩
    have HC2 := hid (Ob.only HC.out o2 (by simpa using Ne.symm hg))
    have c1 := HC2.out.cell 0
    have H2 := hid h2; have O2 := hid o2; clear h2 o2 c0
    go_wp2
    refine stillTail 14 (by kernel_rfl) (by kernel_rfl) ?_
    intro W hW
    have o := Ob.eq_drew (H2.out) hW
    have hO : Hid (Only [g] w W) := hid (Only.eq_drew (O2.out) hW)
    have d0 := o.cell 0
    have d1 := o.cell 1
    have d2 := o.cell 2
    have d3 := o.cell 3
    have d4 := o.cell 4
    have d5 := o.cell 5
    have d6 := o.cell 6
    have d7 := o.cell 7
    have e1 := o.frozen 1
    have HO := hid o
    clear o
    have q0 : W.cell? ⟨c, 0, none⟩ = some (.pointer (some ⟨g, 0, none⟩)) := (Ob.eq_drew HC2.out hW).cell 0
    clear hW
    simp only [List.take_succ_cons, List.take_zero, List.drop_succ_cons, List.drop_zero]
    repeat still_step
    refine wpStill_nil ?_
    go_wp2
    all_goals
      go_ret
      exact ⟨rfl, hO.out.setCell (Or.inl (by simp)) _, Snd.mk (HO.out.set 1 _) rfl (by omega) rfl rfl rfl rfl rfl rfl⟩
set_option maxHeartbeats 2000000 in
theorem sameY (c g : Nat) (w : World) (m win thr un f nx : Int) (k : Nat) (hc : Cob w c g) (h : Snd w g m win thr 2 un false k 57) (hg : g ≠ c) (hm : 1 ≤ m ∧ m ≤ 65535) (hf : f ≤ 9223372036854775807) :
   Calls Try.prog 38 #[.pointer (some ⟨c, 0, none⟩), .int .i64 f, .int .u32 nx] w fun e w' => e = .returned (.bool true) ∧ Only [g] w w' ∧ Snd w' g m (clampW (halfF m f + 3 * m)) (halfF m f) 3 nx true 62 63 := by
  have c0 := hc.cell 0
  have h0 := h.cell 0
  have h1 := h.cell 1
  have h2 := h.cell 2
  have h3 := h.cell 3
  have h4 := h.cell 4
  have h5 := h.cell 5
  have h7 : w.cell? ⟨g, 7, none⟩ = some (.func (.func 57) #[.pointer (some ⟨g, 0, none⟩)] #[]) := h.cell 7
  have H := hid h; have HC := hid hc; clear h hc
  have HCl : Hid (∀ x, clampW x = min x 16777216) := hid fun _ => rfl
  have hb := halfF_bd m f hm hf
  · skip
    go_enter Try.func38, Try.ntmps38
    go_wp2_with fail
    refine (sameOpenYes g _ m win thr f nx un false k _ H.out hm hf).mono ?_
    rintro e w2 ⟨rfl, o2, h2⟩
    have HC2 := hid (Ob.only HC.out o2 (by simpa using Ne.symm hg))
    have c1 := HC2.out.cell 0
    have H2 := hid h2; have O2 := hid o2; clear h2 o2 c0
    go_wp2
    refine stillTail 14 (by kernel_rfl) (by kernel_rfl) ?_
    intro W hW
    have o := Ob.eq_drew (H2.out) hW
    have hO : Hid (Only [g] w W) := hid (Only.eq_drew (O2.out) hW)
    have d0 := o.cell 0
    have d1 := o.cell 1
    have d2 := o.cell 2
    have d3 := o.cell 3
    have d4 := o.cell 4
    have d5 := o.cell 5
    have d6 := o.cell 6
    have d7 := o.cell 7
    have e1 := o.frozen 1
    have HO := hid o
    clear o
    have q0 : W.cell? ⟨c, 0, none⟩ = some (.pointer (some ⟨g, 0, none⟩)) := (Ob.eq_drew HC2.out hW).cell 0
    clear hW
    simp only [List.take_succ_cons, List.take_zero, List.drop_succ_cons, List.drop_zero]
    repeat still_step
    refine wpStill_nil ?_
    go_wp2
    all_goals
      go_ret
      exact ⟨rfl, hO.out.setCell (Or.inl (by simp)) _, Snd.mk (HO.out.set 1 _) rfl (by rw [HCl.out]; omega) rfl rfl rfl rfl rfl rfl⟩
set_option maxHeartbeats 2000000 in
theorem sameM (c g : Nat) (w : World) (m win thr rep un f nx : Int) (k : Nat) (hc : Cob w c g) (h : Snd w g m win thr rep un true k 63) (hg : g ≠ c) (hm : 1 ≤ m ∧ m ≤ 65535) (hr : 0 ≤ rep ∧ rep ≤ 1000) (hw : 0 ≤ win ∧ win ≤ 16777216) :
   Calls Try.prog 38 #[.pointer (some ⟨c, 0, none⟩), .int .i64 f, .int .u32 nx] w fun e w' => e = .returned (.bool false) ∧ Only [g] w w' ∧ Snd w' g m (clampW (win + m)) thr (rep + 1) un true k 63 := by
  have c0 := hc.cell 0
  have h0 := h.cell 0
  have h1 := h.cell 1
  have h2 := h.cell 2
  have h3 := h.cell 3
  have h4 := h.cell 4
  have h5 := h.cell 5
  have h7 : w.cell? ⟨g, 7, none⟩ = some (.func (.func 63) #[.pointer (some ⟨g, 0, none⟩)] #[]) := h.cell 7
  have H := hid h; have HC := hid hc; clear h hc
  have HCl : Hid (∀ x, clampW x = min x 16777216) := hid fun _ => rfl
  · skip
    go_enter Try.func38, Try.ntmps38
    go_wp2_with fail
    refine (sameMend1 g _ m win thr rep un f nx true k _ H.out hm hr hw).mono ?_
    rintro e w2 ⟨rfl, o2, h2⟩
    have HC2 := hid (Ob.only HC.out o2 (by simpa using Ne.symm hg))
    have c1 := HC2.out.cell 0
    have H2 := hid h2; have O2 := hid o2; clear h2 o2 c0
    go_wp2
    refine stillTail 14 (by kernel_rfl) (by kernel_rfl) ?_
    intro W hW
    have o := Ob.eq_drew (H2.out) hW
    have hO : Hid (Only [g] w W) := hid (Only.eq_drew (O2.out) hW)
    have d0 := o.cell 0
    have d1 := o.cell 1
    have d2 := o.cell 2
    have d3 := o.cell 3
    have d4 := o.cell 4
    have d5 := o.cell 5
    have d6 := o.cell 6
    have d7 := o.cell 7
    have e1 := o.frozen 1
    have HO := hid o
    clear o
    have q0 : W.cell? ⟨c, 0, none⟩ = some (.pointer (some ⟨g, 0, none⟩)) := (Ob.eq_drew HC2.out hW).cell 0
    clear hW
    simp only [List.take_succ_cons, List.take_zero, List.drop_succ_cons, List.drop_zero]
    repeat still_step
    refine wpStill_nil ?_
    go_wp2
    all_goals
      go_ret
      exact ⟨rfl, hO.out.setCell (Or.inl (by simp)) _, Snd.mk (HO.out.set 1 _) rfl (by rw [HCl.out]; omega) rfl rfl rfl rfl rfl rfl⟩
end Go.Proofs.Ytoogifoopafghab.cng
