/-
  Chapter 2 (tally): a name's number, by a walk of its text and of sync.Once's. Conditions: none but those typed.
-/
import Derived.Test.YtlhbklbmaoekmaaDoorTalC
namespace Go.Proofs.YtlhbklbmaoekmaaDoor.tal
set_option linter.unusedVariables false
set_option linter.unusedSimpArgs false
open Go.ChangeShapes Go.WideShapes Go.ChangeAt Go.RowKit Go.IntWalk Go.Lib
set_option maxRecDepth 100000 in
set_option maxHeartbeats 4000000 in
theorem slow1 (w : World) (g : Nat) (L : List Int) (hL : L.length = 17) (se : Int) (mv : Value) (hb : Ob w g 41 (bd L 0 0 se mv)) (ht : ∀ i, i < 17 → w.cell? ⟨0, i, none⟩ = some (.string (nm i))) (hg0 : g ≠ 0) (h0 : 0 < w.heap.size) :
    Calls Tryd.prog 33 #[.pointer (some ⟨g, 17, none⟩), .func (.func 23) #[.pointer (some ⟨g, 0, none⟩)] #[]] w fun x w' => x = .returned (.tuple #[]) ∧ ∃ r, w.heap.size ≤ r ∧ Ob w' g 41 (bd L 1 0 se (.map (some r))) ∧ w'.heap[r]? = some (.map (entr 17).toArray 17) ∧ Only [g] w w' := by
  have OB0 := hid hb
  have HT := hid ht; clear ht hb
  go_enter_defers Tryd.func33, Tryd.ntmps33
  go_wp2_with fail
  refine (take_it ⟨g, 18, none⟩ _ ((OB0.out.cell 18).trans (bd18 hL _ _ _ _)) (OB0.out.frozen 18)).mono ?_
  rintro x w1 ⟨rfl, h1⟩
  have Q1 : Hid (Only [g] w w1) := hid (by rw [h1]; exact (Only.refl [g] w).setCell (p := ⟨g, 18, none⟩) (Or.inl (by simp)) _)
  have OB1 : Hid (Ob w1 g 41 (bd L 0 1 se mv)) := hid (by rw [h1]; have h9 := OB0.out.set 18 (.int .i32 1); rwa [bd_set18 hL] at h9)
  clear h1
  go_wp2_with fail
  refine (flag_is ⟨g, 17, none⟩ 0 false _ ((OB1.out.cell 17).trans (bd17 hL _ _ _ _)) rfl).mono ?_
  rintro x w2 ⟨rfl, rfl⟩
  go_wp2_with fail
  have h01 : 0 < w2.heap.size := Nat.lt_of_lt_of_le h0 Q1.out.size
  refine (number1 w2 g L hL 0 1 se mv OB1.out (tab_keep HT.out Q1.out (.inr hg0) h0) hg0 h01).mono ?_
  rintro x w3 ⟨rfl, hb3, hm3, o3⟩
  obtain ⟨r, hr⟩ : ∃ r, r = w2.heap.size := ⟨_, rfl⟩
  rw [← hr] at hb3 hm3
  have hrw : w.heap.size ≤ r := by rw [hr]; exact Q1.out.size
  have OB3 := hid hb3; have HM3 := hid hm3; have Q3 := hid (Q1.out.trans o3)
  have hgr : g < r := by rw [hr]; exact OB1.out.lt
  clear hb3 hm3 o3 hr
  go_wp2
  refine leaves_cons (f := 59) (args := #[.pointer (some ⟨g, 17, none⟩), .bool true]) (by simp) (by simp [go_sem]) ?_
  refine (flag_set ⟨g, 17, none⟩ (.int .u32 0) .returning _ ((OB3.out.cell 17).trans (bd17 hL _ _ _ _)) (OB3.out.frozen 17)).mono ?_
  rintro e u' w4 ⟨rfl, rfl, h4⟩
  have OB4 : Hid (Ob w4 g 41 (bd L 1 1 se (.map (some r)))) := hid (by rw [h4]; have h9 := (OB3.out.drew).set 17 (.int .u32 1); rwa [bd_set17 hL] at h9)
  have Q4 : Hid (Only [g] w w4) := hid (by rw [h4]; exact (Q3.out.drew).setCell (p := ⟨g, 17, none⟩) (Or.inl (by simp)) _)
  have HM4 : Hid (w4.heap[r]? = some (.map (entr 17).toArray 17)) := hid (by rw [h4]; exact heap_keep (w := w3.drew) HM3.out ((Only.refl [g] w3.drew).setCell (p := ⟨g, 17, none⟩) (Or.inl (by simp)) _) (by simp; omega))
  clear h4
  refine leaves_cons (f := 58) (args := #[.pointer (some ⟨g, 18, none⟩)]) (by simp [settle]) (by simp [go_sem]) ?_
  refine (let_go ⟨g, 18, none⟩ _ _ ((OB4.out.cell 18).trans (bd18 hL _ _ _ _)) (OB4.out.frozen 18)).mono ?_
  rintro e u' w5 ⟨rfl, rfl, h5⟩
  have OB5 : Hid (Ob w5 g 41 (bd L 1 0 se (.map (some r)))) := hid (by rw [h5]; have h9 := OB4.out.set 18 (.int .i32 0); rwa [bd_set18 hL] at h9)
  have Q5 : Hid (Only [g] w w5) := hid (by rw [h5]; exact Q4.out.setCell (p := ⟨g, 18, none⟩) (Or.inl (by simp)) _)
  have HM5 : Hid (w5.heap[r]? = some (.map (entr 17).toArray 17)) := hid (by rw [h5]; exact heap_keep (w := w4) HM4.out ((Only.refl [g] w4).setCell (p := ⟨g, 18, none⟩) (Or.inl (by simp)) _) (by simp; omega))
  clear h5
  simp [Leaves, settle, results, Tryd.results33]
  exact ⟨r, hrw, OB5.out, HM5.out, Q5.out⟩
set_option maxHeartbeats 4000000 in
theorem do1 (w : World) (g : Nat) (L : List Int) (hL : L.length = 17) (se : Int) (mv : Value) (hb : Ob w g 41 (bd L 0 0 se mv)) (ht : ∀ i, i < 17 → w.cell? ⟨0, i, none⟩ = some (.string (nm i))) (hg0 : g ≠ 0) (h0 : 0 < w.heap.size) :
    Calls Tryd.prog 22 #[.pointer (some ⟨g, 17, none⟩), .func (.func 23) #[.pointer (some ⟨g, 0, none⟩)] #[]] w fun x w' => x = .returned (.tuple #[]) ∧ ∃ r, w.heap.size ≤ r ∧ Ob w' g 41 (bd L 1 0 se (.map (some r))) ∧ w'.heap[r]? = some (.map (entr 17).toArray 17) ∧ Only [g] w w' := by
  have HS := hid (slow1 w g L hL se mv hb ht hg0 h0)
  have c17 := (hb.cell 17).trans (bd17 hL _ _ _ _)
  clear hb ht
  go_enter Tryd.func22, Tryd.ntmps22
  go_wp2_with fail
  refine (flag_is ⟨g, 17, none⟩ 0 false _ c17 rfl).mono ?_
  rintro x w2 ⟨rfl, rfl⟩
  go_wp2_with fail
  refine HS.out.mono ?_
  rintro x w3 ⟨rfl, h⟩
  go_wp2
  refine bodyPost_end (results_none rfl _ _ _) rfl ?_
  exact ⟨rfl, h⟩
set_option maxHeartbeats 4000000 in
theorem do2 (w : World) (g : Nat) (L : List Int) (hL : L.length = 17) (st se : Int) (mv : Value) (F : Value) (hb : Ob w g 41 (bd L 1 st se mv)) :
    Calls Tryd.prog 22 #[.pointer (some ⟨g, 17, none⟩), F] w fun x w' => x = .returned (.tuple #[]) ∧ w' = w := by
  have c17 := (hb.cell 17).trans (bd17 hL _ _ _ _)
  clear hb
  go_enter Tryd.func22, Tryd.ntmps22
  go_wp2_with fail
  refine (flag_is ⟨g, 17, none⟩ 1 true _ c17 rfl).mono ?_
  rintro x w2 ⟨rfl, rfl⟩
  go_wp2
  refine bodyPost_end (results_none rfl _ _ _) rfl ?_
  exact ⟨rfl, rfl⟩
/-- The table is there. -/
def Built (w : World) (g : Nat) (L : List Int) (se : Int) : Prop := ∃ r, Ob w g 41 (bd L 1 0 se (.map (some r))) ∧ w.heap[r]? = some (.map (entr 17).toArray 17) ∧ r ≠ g
set_option maxHeartbeats 4000000 in
theorem num0 (w : World) (g : Nat) (L : List Int) (hL : L.length = 17) (se : Int) (mv : Value) (s : ByteArray) (hb : Ob w g 41 (bd L 0 0 se mv)) (ht : ∀ i, i < 17 → w.cell? ⟨0, i, none⟩ = some (.string (nm i))) (hg0 : g ≠ 0) (h0 : 0 < w.heap.size) :
    Calls Tryd.prog 10 #[.pointer (some ⟨g, 0, none⟩), .string s] w fun x w' => ∃ v, x = .returned (.int .i64 v) ∧ NumIs s v ∧ Built w' g L se ∧ Only [g] w w' := by
  have hgl := hb.lt
  have HD := hid (do1 w g L hL se mv hb ht hg0 h0)
  clear hb ht
  go_enter Tryd.func10, Tryd.ntmps10
  go_wp2_with fail
  refine HD.out.mono ?_
  rintro x w3 ⟨rfl, r, hr, hb3, hm3, o3⟩
  have OB3 := hid hb3; have HM3 := hid hm3
  have k20 : w3.cell? ⟨g, 20, none⟩ = some (.map (some r)) := (hb3.cell 20).trans (bd20 hL _ _ _ _)
  have hBU : Hid (Built w3 g L se) := hid ⟨r, hb3, hm3, by omega⟩
  have Q3 := hid o3
  have hl := run_look w3 r s hm3
  clear hb3 hm3 o3
  rcases hl with ⟨j, hj, h1, h2⟩ | ⟨h1, h2⟩
  · have HN : Hid (NumIs s (j : Int)) := hid (.inl ⟨j, hj, h1, rfl⟩)
    clear h1
    go_wp2
    go_ret
    exact ⟨_, rfl, HN.out, hBU.out, Q3.out⟩
  · have HN : Hid (NumIs s (-1)) := hid (.inr ⟨h1, rfl⟩)
    clear h1
    go_wp2
    go_ret
    exact ⟨_, rfl, HN.out, hBU.out, Q3.out⟩
set_option maxHeartbeats 4000000 in
theorem num1 (w : World) (g : Nat) (L : List Int) (hL : L.length = 17) (se : Int) (s : ByteArray) (hb : Built w g L se) :
    Calls Tryd.prog 10 #[.pointer (some ⟨g, 0, none⟩), .string s] w fun x w' => ∃ v, x = .returned (.int .i64 v) ∧ NumIs s v ∧ w' = w := by
  obtain ⟨r, hb3, hm3, _⟩ := hb
  have HD := hid (do2 w g L hL 0 se (.map (some r)) (.func (.func 23) #[.pointer (some ⟨g, 0, none⟩)] #[]) hb3)
  have k20 : w.cell? ⟨g, 20, none⟩ = some (.map (some r)) := (hb3.cell 20).trans (bd20 hL _ _ _ _)
  have hl := run_look w r s hm3
  clear hb3 hm3
  rcases hl with ⟨j, hj, h1, h2⟩ | ⟨h1, h2⟩
  · have HN : Hid (NumIs s (j : Int)) := hid (.inl ⟨j, hj, h1, rfl⟩)
    clear h1
    go_enter Tryd.func10, Tryd.ntmps10
    go_wp2_with fail
    refine HD.out.mono ?_
    rintro x w3 ⟨rfl, rfl⟩
    go_wp2
    go_ret
    exact ⟨_, rfl, HN.out, rfl⟩
  · have HN : Hid (NumIs s (-1)) := hid (.inr ⟨h1, rfl⟩)
    clear h1
    go_enter Tryd.func10, Tryd.ntmps10
    go_wp2_with fail
    refine HD.out.mono ?_
    rintro x w3 ⟨rfl, rfl⟩
    go_wp2
    go_ret
    exact ⟨_, rfl, HN.out, rfl⟩
end Go.Proofs.YtlhbklbmaoekmaaDoor.tal
