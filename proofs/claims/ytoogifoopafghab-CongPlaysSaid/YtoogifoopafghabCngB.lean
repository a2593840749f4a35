/-
  Chapter 16 (cong): what each function of the program and of the document's answer does to its object, by a walk of its text, part B. Conditions: the numbers of the object lie in their bounds.
-/
import Derived.Test.YtoogifoopafghabCngA
namespace Go.Proofs.Ytoogifoopafghab.cng
set_option linter.unusedVariables false
set_option linter.unusedSimpArgs false
open Go.ChangeShapes Go.WideShapes Go.ChangeAt Go.RowKit Go.IntWalk Go.Lib
def aoF (m win thr n : Int) : Int := if win < thr then win + min n m else win + max (m * m / win) 1
theorem quo_bd (m win : Int) (hm : 1 ≤ m ∧ m ≤ 65535) (hw : m ≤ win) : 0 ≤ m * m / win ∧ m * m / win ≤ m ∧ 1 ≤ m * m ∧ m * m ≤ 4294836225 := by
  have h1 : 0 ≤ m * m / win := Int.ediv_nonneg (Int.mul_nonneg (by omega) (by omega)) (by omega)
  have h2 : m * m / win ≤ m := Int.ediv_le_of_le_mul (by omega) (Int.mul_le_mul_of_nonneg_left hw (by omega))
  have h3 : m * m ≤ 65535 * 65535 := Int.mul_le_mul hm.2 hm.2 (by omega) (by omega)
  have h4 : 1 * 1 ≤ m * m := Int.mul_le_mul hm.1 hm.1 (by omega) (by omega)
  exact ⟨h1, h2, by omega, by omega⟩
set_option maxHeartbeats 1000000 in
theorem ackedOpen1 (g : Nat) (w : World) (m win thr rep un n una : Int) (mend : Bool) (k l : Nat) (h : Snd w g m win thr rep un mend k l) (hm : 1 ≤ m ∧ m ≤ 65535) (hw : m ≤ win ∧ win ≤ 16777216) (ht : 0 ≤ thr ∧ thr ≤ 4611686018427387904) (hn : 0 ≤ n ∧ n ≤ 9223372036854775807) :
   Calls Try.prog 56 #[.pointer (some ⟨g, 0, none⟩), .int .i64 n, .int .u32 una] w fun e w' => e = .returned (.bool false) ∧ Only [g] w w' ∧ Snd w' g m (aoF m win thr n) thr 0 un mend k l := by
  have h0 := h.cell 0
  have h1 := h.cell 1
  have h2 := h.cell 2
  have h3 := h.cell 3
  have h4 := h.cell 4
  have h5 := h.cell 5
  have h6 := h.cell 6
  have h7 := h.cell 7
  have f1 := h.frozen 1
  have f3 := h.frozen 3
  have H := hid h; clear h
  have hq := quo_bd m win hm hw.1
  have hz : ¬ win = 0 := by omega
  have hk1 : IntKind.i64.wrap (m * m) = m * m := by rw [i64_left]; exact wrap64_in _ (by omega)
  have hk2 : IntKind.i64.wrap ((m * m).tdiv win) = m * m / win := i64_quo _ _ (by omega)
  have HF : Hid (aoF m win thr n = if win < thr then win + min n m else win + max (m * m / win) 1) := hid rfl
  by_cases hlt : win < thr
  · go_enter Try.func56, Try.ntmps56
    go_wp2
    go_quiet (fail)
    go_wp2
    refine stillTail 13 (by kernel_rfl) (by kernel_rfl) ?_
    intro W hW
    have o := Ob.eq_drew ((H.out.set 3 _).drewN nq) hW
    have hO : Hid (Only [g] w W) := hid (Only.eq_drew (by repeat (first | exact Only.refl _ _ | refine Only.setCell ?_ (Or.inl (by simp)) _ | refine Only.drewN ?_ _ | refine Only.drew ?_)) hW)
    have d0 := o.cell 0
    have d1 := o.cell 1
    have d2 := o.cell 2
    have d3 := o.cell 3
    have d4 := o.cell 4
    have d5 := o.cell 5
    have d6 := o.cell 6
    have d7 := o.cell 7
    have e1 := o.frozen 1
    have e3 := o.frozen 3
    have HO := hid o
    clear o
    clear hW
    simp only [List.take_succ_cons, List.take_zero, List.drop_succ_cons, List.drop_zero]
    repeat still_step
    refine wpStill_nil ?_
    go_wp2
    all_goals
      go_ret
      exact ⟨rfl, hO.out.setCell (Or.inl (by simp)) _, Snd.mk (HO.out.set 1 _) rfl (by have q := HF.out; omega) rfl rfl rfl rfl rfl rfl⟩
  · go_enter Try.func56, Try.ntmps56
    go_wp2
    go_quiet (fail)
    go_wp2
    refine stillTail 22 (by kernel_rfl) (by kernel_rfl) ?_
    intro W hW
    have o := Ob.eq_drew ((H.out.set 3 _).drewN nq) hW
    have hO : Hid (Only [g] w W) := hid (Only.eq_drew (by repeat (first | exact Only.refl _ _ | refine Only.setCell ?_ (Or.inl (by simp)) _ | refine Only.drewN ?_ _ | refine Only.drew ?_)) hW)
    have d0 := o.cell 0
    have d1 := o.cell 1
    have d2 := o.cell 2
    have d3 := o.cell 3
    have d4 := o.cell 4
    have d5 := o.cell 5
    have d6 := o.cell 6
    have d7 := o.cell 7
    have e1 := o.frozen 1
    have e3 := o.frozen 3
    have HO := hid o
    clear o
    clear hW
    simp only [List.take_succ_cons, List.take_zero, List.drop_succ_cons, List.drop_zero]
    repeat still_step
    refine wpStill_nil ?_
    go_wp2
    all_goals
      go_ret
      exact ⟨rfl, hO.out.setCell (Or.inl (by simp)) _, Snd.mk (HO.out.set 1 _) rfl (by have q := HF.out; omega) rfl rfl rfl rfl rfl rfl⟩
def amF (m win n : Int) : Int := max (win - n + m) m
set_option maxHeartbeats 1000000 in
theorem ackedMendLess (g : Nat) (w : World) (m win thr rep un n una : Int) (mend : Bool) (k l : Nat) (h : Snd w g m win thr rep un mend k l) (hm : 1 ≤ m ∧ m ≤ 65535) (hw : m ≤ win ∧ win ≤ 16777216) (hn : 0 ≤ n ∧ n ≤ 9223372036854775807) (hl : lessB una un = true) :
   Calls Try.prog 62 #[.pointer (some ⟨g, 0, none⟩), .int .i64 n, .int .u32 una] w fun e w' => e = .returned (.bool true) ∧ Only [g] w w' ∧ Snd w' g m (amF m win n) thr rep un mend k l := by
  have h0 := h.cell 0
  have h1 := h.cell 1
  have h2 := h.cell 2
  have h3 := h.cell 3
  have h4 := h.cell 4
  have h5 := h.cell 5
  have h6 := h.cell 6
  have h7 := h.cell 7
  have f1 := h.frozen 1
  have f3 := h.frozen 3
  have H := hid h; clear h
  have HF : Hid (amF m win n = max (win - n + m) m) := hid rfl
  go_enter Try.func62, Try.ntmps62
  go_wp2_with (go_at_call 64; refine (less1 _ _ _).mono ?_; rintro e w' ⟨rfl, rfl⟩)
  refine stillTail 19 (by kernel_rfl) (by kernel_rfl) ?_
  intro W hW
  have o := Ob.eq_drew (H.out) hW
  have hO : Hid (Only [g] _ W) := hid (Only.eq_drew (by repeat (first | exact Only.refl _ _ | refine Only.setCell ?_ (Or.inl (by simp)) _ | refine Only.drewN ?_ _ | refine Only.drew ?_)) hW)
  have d0 := o.cell 0
  have d1 := o.cell 1
  have d2 := o.cell 2
  have d3 := o.cell 3
  have d4 := o.cell 4
  have d5 := o.cell 5
  have d6 := o.cell 6
  have d7 := o.cell 7
  have e1 := o.frozen 1
  have e3 := o.frozen 3
  have HO := hid o
  clear o
  clear hW
  simp only [List.take_succ_cons, List.take_zero, List.drop_succ_cons, List.drop_zero]
  repeat still_step
  refine wpStill_nil ?_
  go_wp2
  all_goals
    go_ret
    exact ⟨rfl, hO.out.setCell (Or.inl (by simp)) _, Snd.mk (HO.out.set 1 _) rfl (by have q := HF.out; omega) rfl rfl rfl rfl rfl rfl⟩
set_option maxHeartbeats 1000000 in
theorem ackedMendOver (g : Nat) (w : World) (m win thr rep un n una : Int) (mend : Bool) (k l : Nat) (h : Snd w g m win thr rep un mend k l) (hl : lessB una un = false) :
   Calls Try.prog 62 #[.pointer (some ⟨g, 0, none⟩), .int .i64 n, .int .u32 una] w fun e w' => e = .returned (.bool false) ∧ Only [g] w w' ∧ Snd w' g m thr thr 0 un false 56 57 := by
  have h0 := h.cell 0
  have h1 := h.cell 1
  have h2 := h.cell 2
  have h3 := h.cell 3
  have h4 := h.cell 4
  have h5 := h.cell 5
  have h6 := h.cell 6
  have h7 := h.cell 7
  have H := hid h; clear h
  go_enter Try.func62, Try.ntmps62
  go_wp2_with (go_at_call 64; refine (less1 _ _ _).mono ?_; rintro e w' ⟨rfl, rfl⟩)
  clear h0 h1 h2 h3 h4 h5 h6 h7
  refine (open1 g _ m win thr rep un mend _ _ H.out).mono ?_
  rintro e w2 ⟨rfl, o2, h⟩
  have h0 := h.cell 0
  have h1 := h.cell 1
  have h2 := h.cell 2
  have h3 := h.cell 3
  have h4 := h.cell 4
  have h5 := h.cell 5
  have h6 := h.cell 6
  have h7 := h.cell 7
  have f1 := h.frozen 1
  have H2 := hid h; have O2 := hid o2; clear h o2
  go_wp2
  go_ret
  exact ⟨rfl, O2.out.setCell (Or.inl (by simp)) _, H2.out.set 1 _⟩
end Go.Proofs.Ytoogifoopafghab.cng
