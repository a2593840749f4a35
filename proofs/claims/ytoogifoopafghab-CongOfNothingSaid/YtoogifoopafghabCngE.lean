/-
  Chapter 16 (cong): what each function of the program and of the document's answer does to its object, by a walk of its text, part E. Conditions: the numbers of the object lie in their bounds.
-/
import Derived.Test.YtoogifoopafghabCngD
namespace Go.Proofs.Ytoogifoopafghab.cng
set_option linter.unusedVariables false
set_option linter.unusedSimpArgs false
open Go.ChangeShapes Go.WideShapes Go.ChangeAt Go.RowKit Go.IntWalk Go.Lib
theorem newBad (m : Int) (w : World) (h : m < 1 ∨ 65535 < m) : Calls Try.prog 33 #[.int .i64 m] w fun e w' => e = .returned (.tuple #[.pointer none, .int .i64 1]) ∧ w' = w := by
  rcases h with h | h
  all_goals
    go_enter Try.func33, Try.ntmps33
    go_wp2
    all_goals
      go_ret2
      exact ⟨rfl, rfl⟩
/-- A new Cong and its sender, in blocks of their own. -/
structure Fresh (w w' : World) (c g : Nat) (m : Int) : Prop where
  only : Only [] w w'
  cob : Cob w' c g
  snd : Snd w' g m (2 * m) 65535 0 0 false 56 57
  old : w.heap.size ≤ g ∧ w.heap.size ≤ c ∧ g ≠ c
theorem newGood (m : Int) (w : World) (h : 1 ≤ m) (h' : m ≤ 65535) : Calls Try.prog 33 #[.int .i64 m] w fun e w' => ∃ c g : Nat, e = .returned (.tuple #[.pointer (some ⟨c, 0, none⟩), .int .i64 0]) ∧ Fresh w w' c g m := by
  go_enter Try.func33, Try.ntmps33
  go_wp2_with fail
  refine (open1 w.heap.size _ m (2 * m) 65535 0 0 false _ _ (Ob.new _ _ _)).mono ?_
  rintro e w2 ⟨rfl, o2, h2⟩
  have hs : w.heap.size + 1 ≤ w2.heap.size := by have := o2.size; simpa using this
  have H2 := hid h2; have O2 := hid o2; clear h2 o2
  go_wp2
  go_ret2
  exact ⟨w2.heap.size, w.heap.size, rfl, (((Only.refl [] w).alloc _).fresh O2.out (by simp)).alloc _, Ob.new _ _ _, H2.out.alloc _, by omega, by omega, by omega⟩
theorem rnewBad (m : Int) (w : World) (h : m < 1 ∨ 65535 < m) : Calls Try.prog 34 #[.int .i64 m] w fun e w' => e = .returned (.tuple #[.pointer none, .int .i64 1]) ∧ w' = w := by
  rcases h with h | h
  all_goals
    go_enter Try.func34, Try.ntmps34
    go_wp2
    all_goals
      go_ret2
      exact ⟨rfl, rfl⟩
theorem rnewGood (m : Int) (w : World) (h : 1 ≤ m) (h' : m ≤ 65535) : Calls Try.prog 34 #[.int .i64 m] w fun e w' => ∃ g : Nat, e = .returned (.tuple #[.pointer (some ⟨g, 0, none⟩), .int .i64 0]) ∧ Only [] w w' ∧ Ref w' g m (2 * m) 65535 0 0 false ∧ w.heap.size ≤ g := by
  go_enter Try.func34, Try.ntmps34
  go_wp2
  go_ret2
  exact ⟨w.heap.size, rfl, (Only.refl [] w).alloc _, Ob.new _ _ _, by omega⟩
set_option maxHeartbeats 2000000 in
theorem rlost1 (g : Nat) (w : World) (m win thr rep un f : Int) (mend : Bool) (h : Ref w g m win thr rep un mend) (hm : 1 ≤ m ∧ m ≤ 65535) (hf : f ≤ 9223372036854775807) :
   Calls Try.prog 41 #[.pointer (some ⟨g, 0, none⟩), .int .i64 f] w fun e w' => e = .returned (.tuple #[]) ∧ Only [g] w w' ∧ Ref w' g m m (halfF m f) 0 un false := by
  have h0 := h.cell 0
  have h1 := h.cell 1
  have h2 := h.cell 2
  have h3 := h.cell 3
  have h4 := h.cell 4
  have h5 := h.cell 5
  have f1 := h.frozen 1
  have f2 := h.frozen 2
  have f3 := h.frozen 3
  have f4 := h.frozen 4
  have H := hid h; clear h
  have hb := halfF_bd m f hm hf
  go_enter Try.func41, Try.ntmps41
  go_wp2_with (go_at_call 52; refine (half2 g _ m win thr rep un f mend H.out hm hf).mono ?_; rintro e w2 ⟨rfl, rfl⟩)
  refine bodyPost_end (results_none rfl _ _ _) rfl ?_
  exact ⟨rfl, (by repeat (first | exact Only.refl _ _ | refine Only.setCell ?_ (Or.inl (by simp)) _)), by first | exact (((H.out.set 2 _).set 1 _).set 3 _).set 4 _ | exact Ref.mk ((((H.out.set 2 _).set 1 _).set 3 _).set 4 _) rfl rfl rfl rfl rfl rfl⟩
set_option maxHeartbeats 2000000 in
theorem racked1 (g : Nat) (w : World) (m win thr rep un n una : Int) (h : Ref w g m win thr rep un false) (hm : 1 ≤ m ∧ m ≤ 65535) (hw : m ≤ win ∧ win ≤ 16777216) (ht : 0 ≤ thr ∧ thr ≤ 4611686018427387904) (hn : n ≤ 9223372036854775807) :
   Calls Try.prog 37 #[.pointer (some ⟨g, 0, none⟩), .int .i64 n, .int .u32 una] w fun e w' => e = .returned (.bool false) ∧ Only [g] w w' ∧ Ref w' g m (clampW (aoF m win thr (max n 0))) thr 0 un false := by
  have h0 := h.cell 0
  have h1 := h.cell 1
  have h2 := h.cell 2
  have h3 := h.cell 3
  have h4 := h.cell 4
  have h5 := h.cell 5
  have f1 := h.frozen 1
  have f2 := h.frozen 2
  have f3 := h.frozen 3
  have f4 := h.frozen 4
  have H := hid h; clear h
  have hq := quo_bd m win hm hw.1
  have hz : ¬ win = 0 := by omega
  have hk1 : IntKind.i64.wrap (m * m) = m * m := by rw [i64_left]; exact wrap64_in _ (by omega)
  have hk2 : IntKind.i64.wrap ((m * m).tdiv win) = m * m / win := i64_quo _ _ (by omega)
  have HF : Hid (clampW (aoF m win thr (max n 0)) = min (if win < thr then win + min (max n 0) m else win + max (m * m / win) 1) 16777216) := hid rfl
  have hv : 0 ≤ max n 0 := by omega
  by_cases hlt : win < thr
  · go_enter Try.func37, Try.ntmps37
    go_wp2
    all_goals
      go_quiet (fail)
      go_wp2
      refine stillTail 14 (by kernel_rfl) (by kernel_rfl) ?_
      intro W hW
      have o := Ob.eq_drew ((H.out.set 3 _).drewN nq) hW
      have hO : Hid (Only [g] w W) := hid (Only.eq_drew (by repeat (first | exact Only.refl _ _ | refine Only.setCell ?_ (Or.inl (by simp)) _ | refine Only.drewN ?_ _ | refine Only.drew ?_)) hW)
      have d0 := o.cell 0
      have d1 := o.cell 1
      have d2 := o.cell 2
      have d3 := o.cell 3
      have d4 := o.cell 4
      have d5 := o.cell 5
      have e1 := o.frozen 1
      have HO := hid o
      clear o
      clear hW
      simp only [List.take_succ_cons, List.take_zero, List.drop_succ_cons, List.drop_zero]
      repeat still_step
      refine wpStill_nil ?_
      go_wp2
      all_goals
        go_ret
        exact ⟨rfl, (hO.out.setCell (Or.inl (by simp)) _).setCell (Or.inl (by simp)) _, Ref.mk ((HO.out.set 1 _).set 1 _) rfl (by have q := HF.out; omega) rfl rfl rfl rfl⟩
  · go_enter Try.func37, Try.ntmps37
    go_wp2
    all_goals
      go_quiet (fail)
      go_wp2
      refine stillTail 23 (by kernel_rfl) (by kernel_rfl) ?_
      intro W hW
      have o := Ob.eq_drew ((H.out.set 3 _).drewN nq) hW
      have hO : Hid (Only [g] w W) := hid (Only.eq_drew (by repeat (first | exact Only.refl _ _ | refine Only.setCell ?_ (Or.inl (by simp)) _ | refine Only.drewN ?_ _ | refine Only.drew ?_)) hW)
      have d0 := o.cell 0
      have d1 := o.cell 1
      have d2 := o.cell 2
      have d3 := o.cell 3
      have d4 := o.cell 4
      have d5 := o.cell 5
      have e1 := o.frozen 1
      have HO := hid o
      clear o
      clear hW
      simp only [List.take_succ_cons, List.take_zero, List.drop_succ_cons, List.drop_zero]
      repeat still_step
      refine wpStill_nil ?_
      go_wp2
      all_goals
        go_ret
        exact ⟨rfl, (hO.out.setCell (Or.inl (by simp)) _).setCell (Or.inl (by simp)) _, Ref.mk ((HO.out.set 1 _).set 1 _) rfl (by have q := HF.out; omega) rfl rfl rfl rfl⟩
set_option maxHeartbeats 4000000 in
theorem rackedL (g : Nat) (w : World) (m win thr rep un n una : Int) (h : Ref w g m win thr rep un true) (hm : 1 ≤ m ∧ m ≤ 65535) (hw : m ≤ win ∧ win ≤ 16777216) (hn : n ≤ 9223372036854775807) (hl : lessB una un = true) :
   Calls Try.prog 37 #[.pointer (some ⟨g, 0, none⟩), .int .i64 n, .int .u32 una] w fun e w' => e = .returned (.bool true) ∧ Only [g] w w' ∧ Ref w' g m (clampW (amF m win (max n 0))) thr rep un true := by
  have h0 := h.cell 0
  have h1 := h.cell 1
  have h2 := h.cell 2
  have h3 := h.cell 3
  have h4 := h.cell 4
  have h5 := h.cell 5
  have f1 := h.frozen 1
  have H := hid h; clear h
  have HF : Hid (clampW (amF m win (max n 0)) = min (max (win - max n 0 + m) m) 16777216) := hid rfl
  go_enter Try.func37, Try.ntmps37
  go_wp2_with (go_at_call 51; refine (less2 _ _ _).mono ?_; rintro e w' ⟨rfl, rfl⟩)
  all_goals
    refine stillTail 20 (by kernel_rfl) (by kernel_rfl) ?_
    intro W hW
    have o := Ob.eq_drew (H.out) hW
    have hO : Hid (Only [g] _ W) := hid (Only.eq_drew (by repeat (first | exact Only.refl _ _ | refine Only.setCell ?_ (Or.inl (by simp)) _ | refine Only.drewN ?_ _ | refine Only.drew ?_)) hW)
    have d0 := o.cell 0
    have d1 := o.cell 1
    have d2 := o.cell 2
    have d3 := o.cell 3
    have d4 := o.cell 4
    have d5 := o.cell 5
    have e1 := o.frozen 1
    have HO := hid o
    clear o
    clear hW
    simp only [List.take_succ_cons, List.take_zero, List.drop_succ_cons, List.drop_zero]
    repeat still_step
    refine wpStill_nil ?_
    go_wp2
    all_goals
      go_ret
      exact ⟨rfl, hO.out.setCell (Or.inl (by simp)) _, Ref.mk (HO.out.set 1 _) rfl (by have q := HF.out; omega) rfl rfl rfl rfl⟩
set_option maxHeartbeats 4000000 in
theorem rackedO (g : Nat) (w : World) (m win thr rep un n una : Int) (h : Ref w g m win thr rep un true) (ht : 0 ≤ thr ∧ thr ≤ 4611686018427387904) (hl : lessB una un = false) :
   Calls Try.prog 37 #[.pointer (some ⟨g, 0, none⟩), .int .i64 n, .int .u32 una] w fun e w' => e = .returned (.bool false) ∧ Only [g] w w' ∧ Ref w' g m (clampW thr) thr 0 un false := by
  have h0 := h.cell 0
  have h1 := h.cell 1
  have h2 := h.cell 2
  have h3 := h.cell 3
  have h4 := h.cell 4
  have h5 := h.cell 5
  have f1 := h.frozen 1
  have f3 := h.frozen 3
  have f4 := h.frozen 4
  have H := hid h; clear h
  have HF : Hid (clampW thr = min thr 16777216) := hid rfl
  go_enter Try.func37, Try.ntmps37
  go_wp2_with (go_at_call 51; refine (less2 _ _ _).mono ?_; rintro e w' ⟨rfl, rfl⟩)
  all_goals
    go_ret
    exact ⟨rfl, (by repeat (first | exact Only.refl _ _ | refine Only.setCell ?_ (Or.inl (by simp)) _)), Ref.mk (((H.out.set 4 _).set 3 _).set 1 _) rfl (by have q := HF.out; omega) rfl rfl rfl rfl⟩
set_option maxHeartbeats 4000000 in
theorem rsameM (g : Nat) (w : World) (m win thr rep un f nx : Int) (h : Ref w g m win thr rep un true) (hm : 1 ≤ m ∧ m ≤ 65535) (hr : 0 ≤ rep ∧ rep ≤ 1000) (hw : 0 ≤ win ∧ win ≤ 16777216) :
   Calls Try.prog 39 #[.pointer (some ⟨g, 0, none⟩), .int .i64 f, .int .u32 nx] w fun e w' => e = .returned (.bool false) ∧ Only [g] w w' ∧ Ref w' g m (clampW (win + m)) thr (rep + 1) un true := by
  have h0 := h.cell 0
  have h1 := h.cell 1
  have h2 := h.cell 2
  have h3 := h.cell 3
  have h4 := h.cell 4
  have h5 := h.cell 5
  have f1 := h.frozen 1
  have f3 := h.frozen 3
  have H := hid h; clear h
  have HF : Hid (clampW (win + m) = min (win + m) 16777216) := hid rfl
  go_enter Try.func39, Try.ntmps39
  go_wp2
  all_goals
    refine stillTail 13 (by kernel_rfl) (by kernel_rfl) ?_
    intro W hW
    have o := Ob.eq_drew (H.out.set 3 _) hW
    have hO : Hid (Only [g] w W) := hid (Only.eq_drew (by repeat (first | exact Only.refl _ _ | refine Only.setCell ?_ (Or.inl (by simp)) _ | refine Only.drewN ?_ _ | refine Only.drew ?_)) hW)
    have d0 := o.cell 0
    have d1 := o.cell 1
    have d2 := o.cell 2
    have d3 := o.cell 3
    have d4 := o.cell 4
    have d5 := o.cell 5
    have e1 := o.frozen 1
    have HO := hid o
    clear o
    clear hW
    simp only [List.take_succ_cons, List.take_zero, List.drop_succ_cons, List.drop_zero]
    repeat still_step
    refine wpStill_nil ?_
    go_wp2
    all_goals
      go_ret
      exact ⟨rfl, hO.out.setCell (Or.inl (by simp)) _, Ref.mk (HO.out.set 1 _) rfl (by have q := HF.out; omega) rfl (by omega) rfl rfl⟩
theorem rsameN (g : Nat) (w : World) (m win thr rep un f nx : Int) (h : Ref w g m win thr rep un false) (hr : 0 ≤ rep ∧ rep ≤ 1) :
   Calls Try.prog 39 #[.pointer (some ⟨g, 0, none⟩), .int .i64 f, .int .u32 nx] w fun e w' => e = .returned (.bool false) ∧ Only [g] w w' ∧ Ref w' g m win thr (rep + 1) un false := by
  have h0 := h.cell 0
  have h1 := h.cell 1
  have h2 := h.cell 2
  have h3 := h.cell 3
  have h4 := h.cell 4
  have h5 := h.cell 5
  have f1 := h.frozen 1
  have f3 := h.frozen 3
  have H := hid h; clear h
  have h3 : ¬ rep + 1 = 3 := by omega
  go_enter Try.func39, Try.ntmps39
  go_wp2
  all_goals
    go_ret
    exact ⟨rfl, (by repeat (first | exact Only.refl _ _ | refine Only.setCell ?_ (Or.inl (by simp)) _)), Ref.mk (H.out.set 3 _) rfl rfl rfl (by omega) rfl rfl⟩
set_option maxHeartbeats 4000000 in
theorem rsameY (g : Nat) (w : World) (m win thr un f nx : Int) (h : Ref w g m win thr 2 un false) (hm : 1 ≤ m ∧ m ≤ 65535) (hf : f ≤ 9223372036854775807) :
   Calls Try.prog 39 #[.pointer (some ⟨g, 0, none⟩), .int .i64 f, .int .u32 nx] w fun e w' => e = .returned (.bool true) ∧ Only [g] w w' ∧ Ref w' g m (clampW (halfF m f + 3 * m)) (halfF m f) 3 nx true := by
  have h0 := h.cell 0
  have h1 := h.cell 1
  have h2 := h.cell 2
  have h3 := h.cell 3
  have h4 := h.cell 4
  have h5 := h.cell 5
  have f1 := h.frozen 1
  have f2 := h.frozen 2
  have f3 := h.frozen 3
  have f4 := h.frozen 4
  have f5 := h.frozen 5
  have H := hid h; clear h
  have hb := halfF_bd m f hm hf
  have HF : Hid (clampW (halfF m f + 3 * m) = min (halfF m f + 3 * m) 16777216) := hid rfl
  go_enter Try.func39, Try.ntmps39
  go_wp2_with (go_at_call 52; refine (half2 g _ m win thr 3 un f false (H.out.set 3 _) hm hf).mono ?_; rintro e w2 ⟨rfl, rfl⟩)
  all_goals
    refine stillTail 14 (by kernel_rfl) (by kernel_rfl) ?_
    intro W hW
    have o := Ob.eq_drew ((H.out.set 3 _).set 2 _) hW
    have hO : Hid (Only [g] w W) := hid (Only.eq_drew (by repeat (first | exact Only.refl _ _ | refine Only.setCell ?_ (Or.inl (by simp)) _ | refine Only.drewN ?_ _ | refine Only.drew ?_)) hW)
    have d0 := o.cell 0
    have d1 := o.cell 1
    have d2 := o.cell 2
    have d3 := o.cell 3
    have d4 := o.cell 4
    have d5 := o.cell 5
    have e1 := o.frozen 1
    have e4 := o.frozen 4
    have e5 := o.frozen 5
    have HO := hid o
    clear o
    clear hW
    simp only [List.take_succ_cons, List.take_zero, List.drop_succ_cons, List.drop_zero]
    repeat still_step
    refine wpStill_nil ?_
    go_wp2
    all_goals
      go_ret
      exact ⟨rfl, ((hO.out.setCell (Or.inl (by simp)) _).setCell (Or.inl (by simp)) _).setCell (Or.inl (by simp)) _, Ref.mk (((HO.out.set 1 _).set 4 _).set 5 _) rfl (by have q := HF.out; omega) rfl rfl rfl rfl⟩
end Go.Proofs.Ytoogifoopafghab.cng
