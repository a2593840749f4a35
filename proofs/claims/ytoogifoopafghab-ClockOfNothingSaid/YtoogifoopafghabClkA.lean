/-
  Chapter 15 (clock): what each function of the program and of the document's answer does to its object, by a walk of its text. Conditions: the numbers of the object lie in their bounds.
-/
import Derived.Test.YtoogifoopafghabRows
import Derived.Test.YtoogifoopafghabLib
import Derived.StillTailTactics
namespace Go.Proofs.Ytoogifoopafghab.clk
set_option linter.unusedVariables false
set_option linter.unusedSimpArgs false
open Go.ChangeShapes Go.WideShapes Go.ChangeAt Go.RowKit Go.IntWalk Go.Lib
def Clk (w : World) (g : Nat) (s : Bool) (sm va db : Int) : Prop := Ob w g 42 #[.bool s, .int .i64 sm, .int .i64 va, .int .i64 db]
def Ref (w : World) (g : Nat) (s : Bool) (sm va db : Int) : Prop := Ob w g 45 #[.bool s, .int .i64 sm, .int .i64 va, .int .i64 db]
def clip (t : Int) : Int := if t < 1 then 1 else if 1048576 < t then 1048576 else t
def smF (s : Bool) (sm t : Int) : Int := if s then sm + (clip t - sm / 8) else clip t * 8
def vaF (s : Bool) (sm va t : Int) : Int := if s then va + ((if clip t - sm / 8 < 0 then -(clip t - sm / 8) else clip t - sm / 8) - va / 4) else clip t * 2
theorem clip_cases (t : Int) : clip t = 1 ∨ clip t = 1048576 ∨ (clip t = t ∧ 1 ≤ t ∧ t ≤ 1048576) := by unfold clip; omega
theorem clip_bd (t : Int) : 1 ≤ clip t ∧ clip t ≤ 1048576 := by unfold clip; omega
theorem Clk.mk {w : World} {g : Nat} {s s' : Bool} {sm sm' va va' db db' : Int} (h : Ob w g 42 #[.bool s, .int .i64 sm, .int .i64 va, .int .i64 db]) (e0 : s = s') (e1 : sm = sm') (e2 : va = va') (e3 : db = db') : Clk w g s' sm' va' db' := by
  subst e0 e1 e2 e3; exact h
theorem Ref.mk {w : World} {g : Nat} {s s' : Bool} {sm sm' va va' db db' : Int} (h : Ob w g 45 #[.bool s, .int .i64 sm, .int .i64 va, .int .i64 db]) (e0 : s = s') (e1 : sm = sm') (e2 : va = va') (e3 : db = db') : Ref w g s' sm' va' db' := by
  subst e0 e1 e2 e3; exact h
theorem abs1 (d : Int) (w : World) (h : -4611686018427387904 ≤ d ∧ d ≤ 4611686018427387904) : Calls Try.prog 49 #[.int .i64 d] w fun e w' => e = .returned (.int .i64 (if d < 0 then -d else d)) ∧ w' = w := by
  go_enter Try.func49, Try.ntmps49
  go_wp2
  all_goals
    go_ret
    exact ⟨rInt (by first | rfl | omega | simp [*]), rfl⟩
theorem sample_no (g : Nat) (w : World) (t sm va db : Int) (h : Clk w g false sm va db) :
   Calls Try.prog 23 #[.pointer (some ⟨g, 0, none⟩), .int .i64 t] w fun e w' => e = .returned (.tuple #[]) ∧ Only [g] w w' ∧ Clk w' g true (smF false sm t) (vaF false sm va t) 0 := by
  have c0 := h.cell 0
  have c1 := h.cell 1
  have c2 := h.cell 2
  have c3 := h.cell 3
  have f0 := h.frozen 0
  have f1 := h.frozen 1
  have f2 := h.frozen 2
  have f3 := h.frozen 3
  unfold smF vaF
  have H := hid h; clear h
  have HCL : Hid (clip t = if t < 1 then 1 else if 1048576 < t then 1048576 else t) := hid rfl
  go_enter Try.func23, Try.ntmps23
  go_wp2
  all_goals
    refine bodyPost_ret (results_none rfl _ _ _) rfl ?_
    exact ⟨rfl, by repeat (first | exact Only.refl _ _ | refine Only.setCell ?_ (Or.inl (by simp)) _), Clk.mk ((((H.out.set 3 _).set 0 _).set 1 _).set 2 _) rfl (by have q := HCL.out; omega) (by have q := HCL.out; omega) rfl⟩
theorem sample_yes (g : Nat) (w : World) (t sm va db : Int) (h : Clk w g true sm va db) (hs : 0 ≤ sm ∧ sm ≤ 8388608) (hv : 0 ≤ va ∧ va ≤ 8388608) :
   Calls Try.prog 23 #[.pointer (some ⟨g, 0, none⟩), .int .i64 t] w fun e w' => e = .returned (.tuple #[]) ∧ Only [g] w w' ∧ Clk w' g true (smF true sm t) (vaF true sm va t) 0 := by
  have c0 := h.cell 0
  have c1 := h.cell 1
  have c2 := h.cell 2
  have c3 := h.cell 3
  have f0 := h.frozen 0
  have f1 := h.frozen 1
  have f2 := h.frozen 2
  have f3 := h.frozen 3
  unfold smF vaF
  have H := hid h; clear h
  have HCL : Hid (clip t = if t < 1 then 1 else if 1048576 < t then 1048576 else t) := hid rfl
  go_enter Try.func23, Try.ntmps23
  go_wp2
  all_goals
    refine stillTail 15 (by kernel_rfl) (by kernel_rfl) ?_
    intro W hW
    have o := Ob.eq_drew ((H.out.set 3 _).set 1 _) hW
    have hO : Hid (Only [g] w W) := Only.eq_drew (by repeat (first | exact Only.refl _ _ | refine Only.setCell ?_ (Or.inl (by simp)) _)) hW
    have d0 := o.cell 0
    have d1 := o.cell 1
    have d2 := o.cell 2
    have d3 := o.cell 3
    have e0 := o.frozen 0
    have e1 := o.frozen 1
    have e2 := o.frozen 2
    have e3 := o.frozen 3
    have HO := hid o
    have HW := hid hW
    clear o hW c0 c1 c2 c3 f0 f1 f2 f3
    simp only [List.take_succ_cons, List.take_zero, List.drop_succ_cons, List.drop_zero]
    repeat (first | still_step | still_call (abs1 _ _ (by omega)))
    refine wpStill_nil ?_
    go_wp2
    all_goals
      refine bodyPost_end (results_none rfl _ _ _) rfl ?_
      exact ⟨rfl, hO.out.setCell (Or.inl (by simp)) _, Clk.mk (HO.out.set 2 _) rfl (by have q := HCL.out; omega) (by have q := HCL.out; omega) rfl⟩
end Go.Proofs.Ytoogifoopafghab.clk
