/-
  Chapter 1 (octet): the sums, by a walk of each text, part H. Conditions: none but those typed.
-/
import Derived.Test.YtoogifoopafghaaOctE
import Derived.Laws.EntriesVeiled
import Derived.WalkSpells
namespace Go.Proofs.Ytoogifoopafghaa.oct
set_option linter.unusedVariables false
set_option linter.unusedSimpArgs false
open Go.ChangeShapes Go.WideShapes Go.ChangeAt Go.RowKit Go.IntWalk Go.Lib
/-- The closure of a Reader, over its error's cell and its bytes' cell. -/
def Z (w : World) (r e p : Nat) (er : Int) : Prop :=
  Ob w r 55 #[.func (.func 62) #[] #[.pointer (some ⟨e, 0, none⟩), .pointer (some ⟨p, 0, none⟩)]] ∧ Ob w e 50 #[.int .i64 er] ∧ Ob w p 22 #[.slice none 0 0] ∧ r ≠ e ∧ r ≠ p ∧ e ≠ p
def nilB : Value := .slice none 0 0
theorem cl_ok (w : World) (e p : Nat) (he : Ob w e 50 #[.int .i64 0]) (hp : Ob w p 22 #[.slice none 0 0]) (hne : e ≠ p) :
    Calls Try.prog 62 #[.int .i64 0, .pointer (some ⟨e, 0, none⟩), .pointer (some ⟨p, 0, none⟩)] w fun x w' => x = .returned (.tuple #[.slice none 0 0, .int .i64 0, .int .i64 0]) ∧ Only [e, p] w w' ∧ Ob w' e 50 #[.int .i64 0] ∧ Ob w' p 22 #[.slice none 0 0] := by
  have c0 := he.cell 0
  have c1 := hp.cell 0
  have f1 := hp.frozen 0
  have HE := hid he; have HP := hid hp; clear he hp
  go_enter Try.func62, Try.ntmps62
  go_wp2
  go_quiet (fail)
  go_wp2
  go_ret3
  exact ⟨rfl, ((Only.refl [e, p] w).setCell (Or.inl (by simp)) _).drewN _, (HE.out.far (by simpa using hne) _).drewN _, (HP.out.set 0 _).drewN _⟩
theorem cl_bad (w : World) (e p : Nat) (n : Int) (he : Ob w e 50 #[.int .i64 0]) (hp : Ob w p 22 #[.slice none 0 0]) (hne : e ≠ p) (hn : ¬ n = 0) :
    Calls Try.prog 62 #[.int .i64 n, .pointer (some ⟨e, 0, none⟩), .pointer (some ⟨p, 0, none⟩)] w fun x w' => x = .returned (.tuple #[.slice none 0 0, .int .i64 0, .int .i64 2]) ∧ Only [e, p] w w' ∧ Ob w' e 50 #[.int .i64 2] ∧ Ob w' p 22 #[.slice none 0 0] := by
  have c0 := he.cell 0
  have c1 := hp.cell 0
  have f0 := he.frozen 0
  have f1 := hp.frozen 0
  have hne' : ¬ p = e := fun h => hne h.symm
  have HE := hid he; have HP := hid hp; clear he hp
  by_cases h1 : n < 0
  all_goals
    (try have h2 : 0 < n := by omega)
    go_enter Try.func62, Try.ntmps62
    go_wp2
    go_quiet (fail)
    go_wp2
    go_ret3
    exact ⟨rfl, (((Only.refl [e, p] w).setCell (Or.inl (by simp)) _).setCell (Or.inl (by simp)) _).drewN _, ((HE.out.far (by simpa using hne) _).set 0 _).drewN _, ((HP.out.set 0 _).far (by simpa using hne') _).drewN _⟩
theorem cl_dead (w : World) (e p : Nat) (n : Int) (he : Ob w e 50 #[.int .i64 2]) :
    Calls Try.prog 62 #[.int .i64 n, .pointer (some ⟨e, 0, none⟩), .pointer (some ⟨p, 0, none⟩)] w fun x w' => x = .returned (.tuple #[.slice none 0 0, .int .i64 0, .int .i64 2]) ∧ ∃ m, w' = w.drewN m := by
  have c0 := he.cell 0
  clear he
  go_enter Try.func62, Try.ntmps62
  go_wp2
  go_quiet (fail)
  go_wp2
  go_ret3
  exact ⟨rfl, _, rfl⟩
/-- What the closure of an empty Reader answers: its error behind the call. -/
def erF (er n : Int) : Int := if er = 0 ∧ n = 0 then 0 else 2
theorem take_made (w : World) (r e p : Nat) (er n : Int) (h : Z w r e p er) (her : er = 0 ∨ er = 2) :
    Calls Try.prog 57 #[.pointer (some ⟨r, 0, none⟩), .int .i64 n] w fun x w' => x = .returned (.tuple #[.slice none 0 0, .int .i64 0, .int .i64 (erF er n)]) ∧ Only [e, p] w w' ∧ Z w' r e p (erF er n) := by
  obtain ⟨hr, he, hp, d1, d2, d3⟩ := h
  have c0 := hr.cell 0
  have HR := hid hr; have HE := hid he; have HP := hid hp; clear hr he hp
  have kf : ∀ w : World, Sem.run Try.prog (binOp BinOp.eql 53 (Value.func (Fn.func 62) #[] #[.pointer (some ⟨e, 0, none⟩), .pointer (some ⟨p, 0, none⟩)]) Value.nilFunc) w = Result.ok (Value.bool false) w := fun _ => by kernel_rfl
  have HD : Hid (r ∉ [e, p]) := hid (by simp; exact ⟨d1, d2⟩)
  rcases her with rfl | rfl
  · by_cases hn : n = 0
    · subst hn
      rw [show erF 0 0 = 0 from rfl]
      go_enter Try.func57, Try.ntmps57
      go_wp2_with fail
      refine (cl_ok w e p HE.out HP.out d3).mono ?_
      rintro x w2 ⟨rfl, o2, he2, hp2⟩
      have O2 := hid o2; have HE2 := hid he2; have HP2 := hid hp2; clear o2 he2 hp2
      go_wp2
      try go_quiet (fail)
      try go_wp2
      go_ret3
      exact ⟨rfl, O2.out, HR.out.only O2.out HD.out, HE2.out, HP2.out, d1, d2, d3⟩
    · rw [show erF 0 n = 2 from by simp [erF, hn]]
      go_enter Try.func57, Try.ntmps57
      go_wp2_with fail
      refine (cl_bad w e p n HE.out HP.out d3 hn).mono ?_
      rintro x w2 ⟨rfl, o2, he2, hp2⟩
      have O2 := hid o2; have HE2 := hid he2; have HP2 := hid hp2; clear o2 he2 hp2
      go_wp2
      try go_quiet (fail)
      try go_wp2
      go_ret3
      exact ⟨rfl, O2.out, HR.out.only O2.out HD.out, HE2.out, HP2.out, d1, d2, d3⟩
  · rw [show erF 2 n = 2 from by simp [erF]]
    go_enter Try.func57, Try.ntmps57
    go_wp2_with fail
    refine (cl_dead w e p n HE.out).mono ?_
    rintro x w2 ⟨rfl, m2, rfl⟩
    go_wp2
    try go_quiet (fail)
    try go_wp2
    go_ret3
    exact ⟨rfl, (Only.refl _ _).drewN _, HR.out.drewN _, HE.out.drewN _, HP.out.drewN _, d1, d2, d3⟩
theorem reading_nil (w : World) : Calls Try.prog 55 #[.slice none 0 0] w fun x w' => ∃ e p, x = .returned (.func (.func 62) #[] #[.pointer (some ⟨e, 0, none⟩), .pointer (some ⟨p, 0, none⟩)]) ∧ Only [] w w' ∧ Ob w' e 50 #[.int .i64 0] ∧ Ob w' p 22 #[.slice none 0 0] ∧ e ≠ p ∧ w.heap.size ≤ e ∧ w.heap.size ≤ p := by
  go_enter Try.func55, Try.ntmps55
  go_wp2
  go_ret
  refine ⟨w.heap.size + 1, w.heap.size, rfl, ?_, ?_, ?_, by omega, by omega, by omega⟩
  · repeat (first | exact Only.refl _ _ | refine Only.setCell ?_ (Or.inr (by simp)) _ | refine Only.alloc ?_ _)
  · first
      | (simpa using Ob.new (w.alloc (.cells #[.slice none 0 0] 22)) 50 #[.int .i64 0])
      | (simpa using Ob.set (Ob.new (w.alloc (.cells #[.slice none 0 0] 22)) 50 #[.int .i64 0]) 0 (.int .i64 0))
  · first
      | exact (Ob.new w _ _).alloc _
      | exact ((Ob.new w _ _).alloc _).far (by simp) _
theorem take_new (w : World) (r : Nat) (h : Ob w r 55 #[.nilFunc]) :
    Calls Try.prog 57 #[.pointer (some ⟨r, 0, none⟩), .int .i64 0] w fun x w' => ∃ e p, x = .returned (.tuple #[.slice none 0 0, .int .i64 0, .int .i64 0]) ∧ Only [r] w w' ∧ Z w' r e p 0 ∧ w.heap.size ≤ e ∧ w.heap.size ≤ p := by
  have c0 := h.cell 0
  have f0 := h.frozen 0
  have hlt := h.lt
  have HR := hid h; clear h
  have kn : ∀ w : World, Sem.run Try.prog (binOp BinOp.eql 53 Value.nilFunc Value.nilFunc) w = Result.ok (Value.bool true) w := fun _ => by kernel_rfl
  go_enter Try.func57, Try.ntmps57
  go_wp2_with fail
  refine (reading_nil w).mono ?_
  rintro x w1 ⟨e, p, rfl, o1, he, hp, hep, hle, hlp⟩
  have HE := hid he; have HP := hid hp; have O1 := hid o1
  have hr1 := HR.out.only o1 (by simp)
  have c1 := hr1.cell 0
  have f1 := hr1.frozen 0
  have HR1 := hid hr1
  have d1 : Hid (e ≠ r ∧ p ≠ r) := hid (by omega)
  clear he hp o1 hr1 c0 f0
  go_wp2_with fail
  refine (cl_ok _ e p (HE.out.far (by simpa using d1.out.1) _) (HP.out.far (by simpa using d1.out.2) _) hep).mono ?_
  rintro x w2 ⟨rfl, o2, he2, hp2⟩
  have O2 := hid o2; have HE2 := hid he2; have HP2 := hid hp2; clear o2 he2 hp2
  go_wp2
  try go_quiet (fail)
  try go_wp2
  go_ret3
  have hx : Only [r] w w1 := O1.out.more (by simp)
  refine ⟨e, p, rfl, (hx.setCell (Or.inl (by simp)) _).fresh O2.out (by intro i hi; simp at hi; omega), ⟨?_, HE2.out, HP2.out, fun h => d1.out.1 h.symm, fun h => d1.out.2 h.symm, hep⟩, hle, hlp⟩
  exact Ob.only (HR1.out.set 0 _) O2.out (by simp; exact ⟨fun h => d1.out.1 h.symm, fun h => d1.out.2 h.symm⟩)
theorem clone_nil (w : World) : Calls Try.prog 54 #[.slice none 0 0] w fun x w' => x = .returned (.slice none 0 0) ∧ w' = w := by
  have kn : ∀ w : World, Sem.run Try.prog (binOp BinOp.eql 22 (Value.slice none 0 0) (Value.slice none 0 0)) w = Result.ok (Value.bool true) w := fun _ => by kernel_rfl
  go_enter Try.func54, Try.ntmps54
  go_wp2
  go_ret
  exact ⟨rfl, rfl⟩
theorem bytes_nil (w : World) (g : Nat) (h : Ob w g 36 #[.slice none 0 0]) : Calls Try.prog 31 #[.pointer (some ⟨g, 0, none⟩)] w fun x w' => x = .returned (.slice none 0 0) ∧ w' = w := by
  have c0 := h.cell 0
  clear h
  go_enter Try.func31, Try.ntmps31
  go_wp2_with (go_at_call 54; refine (clone_nil _).mono ?_; rintro e w' ⟨rfl, rfl⟩)
  go_ret
  exact ⟨rfl, rfl⟩
theorem left_new (w : World) (r : Nat) (h : Ob w r 55 #[.nilFunc]) :
    Calls Try.prog 38 #[.pointer (some ⟨r, 0, none⟩)] w fun x w' => ∃ e p, x = .returned (.int .i64 0) ∧ Only [r] w w' ∧ Z w' r e p 0 ∧ w.heap.size ≤ e ∧ w.heap.size ≤ p := by
  go_enter Try.func38, Try.ntmps38
  go_wp2_with fail
  refine (take_new w r h).mono ?_
  rintro x w1 ⟨e, p, rfl, o1, hz, hle, hlp⟩
  have O1 := hid o1; have HZ := hid hz; clear o1 hz
  go_wp2
  go_ret
  exact ⟨e, p, rfl, O1.out, HZ.out, hle, hlp⟩
theorem err_made (w : World) (r e p : Nat) (er : Int) (h : Z w r e p er) (her : er = 0 ∨ er = 2) :
    Calls Try.prog 39 #[.pointer (some ⟨r, 0, none⟩)] w fun x w' => x = .returned (.int .i64 er) ∧ Only [e, p] w w' ∧ Z w' r e p er := by
  have HE : Hid (erF er 0 = er) := hid (by unfold erF; rcases her with rfl | rfl <;> simp)
  go_enter Try.func39, Try.ntmps39
  go_wp2_with fail
  refine (take_made w r e p er 0 h her).mono ?_
  rintro x w1 ⟨rfl, o1, hz⟩
  rw [HE.out] at hz
  rw [HE.out]
  have O1 := hid o1; have HZ := hid hz; clear o1 hz
  go_wp2
  go_ret
  exact ⟨rfl, O1.out, HZ.out⟩
theorem raw_made (w : World) (r e p : Nat) (er n : Int) (h : Z w r e p er) (her : er = 0 ∨ er = 2) :
    Calls Try.prog 37 #[.pointer (some ⟨r, 0, none⟩), .int .i64 n] w fun x w' => x = .returned (.slice none 0 0) ∧ Only [e, p] w w' ∧ Z w' r e p (erF er n) := by
  go_enter Try.func37, Try.ntmps37
  go_wp2_with fail
  refine (take_made w r e p er n h her).mono ?_
  rintro x w1 ⟨rfl, o1, hz⟩
  have O1 := hid o1; have HZ := hid hz; clear o1 hz
  go_wp2_with (go_at_call 54; refine (clone_nil _).mono ?_; rintro e w' ⟨rfl, rfl⟩)
  go_ret
  exact ⟨rfl, O1.out, HZ.out⟩
theorem byte_made (w : World) (r e p : Nat) (er : Int) (h : Z w r e p er) (her : er = 0 ∨ er = 2) :
    Calls Try.prog 34 #[.pointer (some ⟨r, 0, none⟩)] w fun x w' => x = .returned (.int .i64 0) ∧ Only [e, p] w w' ∧ Z w' r e p 2 := by
  have HE : Hid (erF er 1 = 2) := hid (by unfold erF; simp)
  have num : Calls Try.prog 56 #[.pointer (some ⟨r, 0, none⟩), .int .i64 1] w fun x w' => x = .returned (.int .u32 0) ∧ Only [e, p] w w' ∧ Z w' r e p 2 := by
    go_enter Try.func56, Try.ntmps56
    go_wp2_with fail
    refine (take_made w r e p er 1 h her).mono ?_
    rintro x w1 ⟨rfl, o1, hz⟩
    rw [HE.out] at hz
    have O1 := hid o1; have HZ := hid hz; clear o1 hz
    go_wp2
    go_loop [8, 20] (fun v i => v = .int .u32 0 ∧ i = .int .i64 0) (fun _ _ => 0)
    case atStart => exact ⟨rfl, rfl⟩
    case round =>
      obtain ⟨rfl, rfl⟩ := hrel
      go_wp2
      go_ret
      exact ⟨rfl, O1.out, HZ.out⟩
  have NUM := hid num; clear num
  go_enter Try.func34, Try.ntmps34
  go_wp2_with fail
  refine NUM.out.mono ?_
  rintro x w1 ⟨rfl, o1, hz⟩
  have O1 := hid o1; have HZ := hid hz; clear o1 hz
  go_wp2
  go_ret
  exact ⟨rfl, O1.out, HZ.out⟩
theorem nothing (w : World) (n : Int) : Calls Try.prog 10 #[.int .i64 n] w fun x w' => x = .returned (.bool true) ∧ Only [] w w' := by
  have hw : Ob ((w.alloc (.cells #[.slice none 0 0] 36)).alloc (.cells #[.nilFunc] 55)) w.heap.size 36 #[.slice none 0 0] := (Ob.new _ _ _).alloc _
  have hr : Ob ((w.alloc (.cells #[.slice none 0 0] 36)).alloc (.cells #[.nilFunc] 55)) (w.heap.size + 1) 55 #[.nilFunc] := by simpa using Ob.new (w.alloc (.cells #[.slice none 0 0] 36)) 55 #[.nilFunc]
  have HW := hid hw; have HR := hid hr; clear hw hr
  have Q0 : Hid (Only [] w ((w.alloc (.cells #[.slice none 0 0] 36)).alloc (.cells #[.nilFunc] 55))) := hid (((Only.refl [] w).alloc _).alloc _)
  go_enter Try.func10, Try.ntmps10
  go_wp2_with fail
  refine (bytes_nil _ _ HW.out).mono ?_
  rintro x w' ⟨rfl, rfl⟩
  go_wp2_with fail
  refine (left_new _ _ HR.out).mono ?_
  rintro x w1 ⟨e, p, rfl, o1, hz, hle, hlp⟩
  have hle' : w.heap.size ≤ e := by simp at hle; omega
  have hlp' : w.heap.size ≤ p := by simp at hlp; omega
  have Q1 : Hid (Only [] w w1) := hid (Q0.out.fresh o1 (by simp))
  have HQ : Hid (∀ i, i ∈ [e, p] → i ∈ ([] : List Nat) ∨ w.heap.size ≤ i) := hid (by intro i hi; simp at hi; omega)
  have HZ := hid hz; clear o1 hz hle hlp
  go_wp2_with fail
  refine (err_made _ _ _ _ 0 HZ.out (.inl rfl)).mono ?_
  rintro x w2 ⟨rfl, o2, hz⟩
  have Q2 := hid (Q1.out.fresh o2 HQ.out); have HZ2 := hid hz; clear o2 hz
  go_wp2_with fail
  refine (raw_made _ _ _ _ 0 n HZ2.out (.inl rfl)).mono ?_
  rintro x w3 ⟨rfl, o3, hz⟩
  have Q3 := hid (Q2.out.fresh o3 HQ.out); have HZ3 := hid hz; clear o3 hz
  have her : erF 0 n = 0 ∨ erF 0 n = 2 := by unfold erF; split <;> simp
  have HER := hid her; clear her
  go_wp2_with fail
  refine (byte_made _ _ _ _ _ HZ3.out HER.out).mono ?_
  rintro x w4 ⟨rfl, o4, hz⟩
  have Q4 := hid (Q3.out.fresh o4 HQ.out); have HZ4 := hid hz; clear o4 hz
  go_wp2_with fail
  refine (err_made _ _ _ _ 2 HZ4.out (.inr rfl)).mono ?_
  rintro x w5 ⟨rfl, o5, hz⟩
  have Q5 := hid (Q4.out.fresh o5 HQ.out); clear o5 hz
  go_wp2_with fail
  refine (known _).mono ?_
  rintro x w6 ⟨rfl, o6⟩
  have O6 := hid o6; clear o6
  go_wp2
  go_ret
  exact ⟨rfl, Q5.out.trans O6.out⟩
end Go.Proofs.Ytoogifoopafghaa.oct
