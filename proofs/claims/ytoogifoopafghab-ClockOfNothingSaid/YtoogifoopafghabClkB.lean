/-
  Chapter 15 (clock): how long to wait, by a walk of each text. Conditions: the numbers of the object lie in their bounds.
-/
import Derived.Test.YtoogifoopafghabClkA
import Derived.Deep.QuietTactic
import Derived.BigQuiet
namespace Go.Proofs.Ytoogifoopafghab.clk
set_option linter.unusedVariables false
set_option linter.unusedSimpArgs false
open Go.ChangeShapes Go.WideShapes Go.ChangeAt Go.RowKit Go.IntWalk Go.Lib
def base (s : Bool) (sm va : Int) : Int := if s then (if sm / 8 + max va 1 < 10 then 10 else if 600 < sm / 8 + max va 1 then 600 else sm / 8 + max va 1) else 30
def wt (b : Int) : Nat → Int
  | 0 => b
  | n + 1 => min (2 * wt b n) 600
theorem base_bd (s : Bool) (sm va : Int) : 10 ≤ base s sm va ∧ base s sm va ≤ 600 := by unfold base; cases s <;> simp <;> omega
theorem wt_bd (b : Int) (h : 10 ≤ b ∧ b ≤ 600) : ∀ n, 10 ≤ wt b n ∧ wt b n ≤ 600
  | 0 => h
  | n + 1 => by have := wt_bd b h n; unfold wt; omega
theorem wait_yes (g : Nat) (w : World) (sm va : Int) (k : Nat) (h : Clk w g true sm va k) (hs : 0 ≤ sm ∧ sm ≤ 8388608) (hv : 0 ≤ va ∧ va ≤ 8388608) (hk : k ≤ 1000):
   Calls Try.prog 30 #[.pointer (some ⟨g, 0, none⟩)] w fun e w' => e = .returned (.int .i64 (wt (base true sm va) k)) ∧ ∃ n, w' = w.drewN n := by
  have c0 := h.cell 0
  have c1 := h.cell 1
  have c2 := h.cell 2
  have c3 := h.cell 3
  have HW' := hid (wt_bd (base true sm va) (base_bd true sm va))
  clear h
  have HB' : Hid (base true sm va = if sm / 8 + max va 1 < 10 then 10 else if 600 < sm / 8 + max va 1 then 600 else sm / 8 + max va 1) := hid (by unfold base; simp)
  go_enter Try.func30, Try.ntmps30
  go_wp2
  go_quiet (fail)
  go_wp2
  all_goals
    go_loop [3, 28] (fun v i => ∃ j : Nat, j ≤ k ∧ i = .int .i64 j ∧ v = .int .i64 (wt (base true sm va) j)) (fun _ i => k - (intOf i).toNat)
    case atStart => exact ⟨0, by omega, rfl, by have q := HB'.out; simp only [wt]; first | (rw [q]; done) | (congr 1; omega)⟩
    case round =>
      obtain ⟨j, hj, rfl, rfl⟩ := hrel
      have b1 := HW'.out j
      have hw : Hid (wt (base true sm va) (j + 1) = min (2 * wt (base true sm va) j) 600) := hid rfl
      by_cases hlt : j < k
      · go_wp2
        all_goals
          go_round
          case rel => exact ⟨j + 1, by omega, by go_num, by congr 1; have q := hw.out; omega⟩
          case measure => simp [intOf]; omega
      · obtain rfl : j = k := by omega
        go_wp2
        go_ret
        exact ⟨rfl, _, rfl⟩
theorem wait_no (g : Nat) (w : World) (sm va : Int) (k : Nat) (h : Clk w g false sm va k) (hk : k ≤ 1000):
   Calls Try.prog 30 #[.pointer (some ⟨g, 0, none⟩)] w fun e w' => e = .returned (.int .i64 (wt (base false sm va) k)) ∧ ∃ n, w' = w.drewN n := by
  have c0 := h.cell 0
  have c1 := h.cell 1
  have c2 := h.cell 2
  have c3 := h.cell 3
  have HW' := hid (wt_bd (base false sm va) (base_bd false sm va))
  clear h
  have HB' : Hid (base false sm va = 30) := hid (by unfold base; simp)
  go_enter Try.func30, Try.ntmps30
  go_wp2
  all_goals
    go_loop [3, 28] (fun v i => ∃ j : Nat, j ≤ k ∧ i = .int .i64 j ∧ v = .int .i64 (wt (base false sm va) j)) (fun _ i => k - (intOf i).toNat)
    case atStart => exact ⟨0, by omega, rfl, by have q := HB'.out; simp only [wt]; first | (rw [q]; done) | (congr 1; omega)⟩
    case round =>
      obtain ⟨j, hj, rfl, rfl⟩ := hrel
      have b1 := HW'.out j
      have hw : Hid (wt (base false sm va) (j + 1) = min (2 * wt (base false sm va) j) 600) := hid rfl
      by_cases hlt : j < k
      · go_wp2
        all_goals
          go_round
          case rel => exact ⟨j + 1, by omega, by go_num, by congr 1; have q := hw.out; omega⟩
          case measure => simp [intOf]; omega
      · obtain rfl : j = k := by omega
        go_wp2
        go_ret
        exact ⟨rfl, 0, rfl⟩
theorem wait1 (g : Nat) (w : World) (s : Bool) (sm va : Int) (k : Nat) (h : Clk w g s sm va k) (hs : 0 ≤ sm ∧ sm ≤ 8388608) (hv : 0 ≤ va ∧ va ≤ 8388608) (hk : k ≤ 1000):
   Calls Try.prog 30 #[.pointer (some ⟨g, 0, none⟩)] w fun e w' => e = .returned (.int .i64 (wt (base s sm va) k)) ∧ ∃ n, w' = w.drewN n := by
  cases s
  · exact wait_no g w sm va k h hk
  · exact wait_yes g w sm va k h hs hv hk
def backF (b : Int) (k : Nat) : Nat := if wt b k < 600 then k + 1 else k
theorem back1 (g : Nat) (w : World) (s : Bool) (sm va : Int) (k : Nat) (h : Clk w g s sm va k) (hs : 0 ≤ sm ∧ sm ≤ 8388608) (hv : 0 ≤ va ∧ va ≤ 8388608) (hk : k ≤ 1000):
   Calls Try.prog 25 #[.pointer (some ⟨g, 0, none⟩)] w fun e w' => e = .returned (.tuple #[]) ∧ Only [g] w w' ∧ Clk w' g s sm va (backF (base s sm va) k) := by
  have c3 := h.cell 3
  have f3 := h.frozen 3
  have H := hid h
  clear h
  unfold backF
  by_cases hlt : wt (base s sm va) k < 600
  · go_enter Try.func25, Try.ntmps25
    go_wp2_with (go_at_call 30; refine (wait1 g w s sm va k H.out hs hv hk).mono ?_; rintro e w' ⟨rfl, nq, rfl⟩)
    refine bodyPost_end (results_none rfl _ _ _) rfl ?_
    exact ⟨rfl, ((Only.refl _ _).drewN _).setCell (Or.inl (by simp)) _, (H.out.drewN nq).set 3 _⟩
  · go_enter Try.func25, Try.ntmps25
    go_wp2_with (go_at_call 30; refine (wait1 g w s sm va k H.out hs hv hk).mono ?_; rintro e w' ⟨rfl, nq, rfl⟩)
    refine bodyPost_end (results_none rfl _ _ _) rfl ?_
    exact ⟨rfl, (Only.refl _ _).drewN _, H.out.drewN nq⟩
theorem calm1 (g : Nat) (w : World) (s : Bool) (sm va db : Int) (h : Clk w g s sm va db) :
   Calls Try.prog 27 #[.pointer (some ⟨g, 0, none⟩)] w fun e w' => e = .returned (.tuple #[]) ∧ Only [g] w w' ∧ Clk w' g s sm va 0 := by
  have c3 := h.cell 3
  have f3 := h.frozen 3
  have H := hid h
  clear h
  go_enter Try.func27, Try.ntmps27
  go_wp2
  refine bodyPost_end (results_none rfl _ _ _) rfl ?_
  exact ⟨rfl, (Only.refl _ _).setCell (Or.inl (by simp)) _, H.out.set 3 _⟩
theorem seen1 (g : Nat) (w : World) (s : Bool) (sm va db : Int) (h : Clk w g s sm va db) :
   Calls Try.prog 29 #[.pointer (some ⟨g, 0, none⟩)] w fun e w' => e = .returned (.tuple #[.int .i64 sm, .int .i64 va]) ∧ ∃ n, w' = w.drewN n := by
  have c1 := h.cell 1
  have c2 := h.cell 2
  clear h
  go_enter Try.func29, Try.ntmps29
  go_wp2
  try go_quiet (fail)
  try go_wp2
  go_ret2
  exact ⟨rfl, by first | exact ⟨_, rfl⟩ | exact ⟨0, rfl⟩⟩
end Go.Proofs.Ytoogifoopafghab.clk
