/-
  The laws' own helpers: whether two rows of bytes are the same, a row with marked room behind it, and a row spoilt, by a walk of each text. Conditions: none but those typed.
-/
import Derived.Test.YtdpmjghdmpaehaaRows
import Derived.Test.YtdpmjghdmpaehaaOwn
import Derived.Test.YtdpmjghdmpaehaaBit
import Derived.Deep.QuietTactic
import Derived.BigQuiet
namespace Go.Proofs.Ytdpmjghdmpaehaa.hlp
set_option linter.unusedVariables false
set_option linter.unusedSimpArgs false
open Go.ChangeShapes Go.WideShapes Go.ChangeAt Go.RowKit Go.IntWalk Go.Lib
theorem elemB : Elem Try.prog 28 5 .u8 1 := ⟨Try.underlying28, by kernel_rfl⟩
theorem u8wf {z : Int} (h : 0 ≤ z ∧ z ≤ 255) : (Lit.int .u8 z).wf = true := (Lit.wf_int_iff .u8 z).2 h
set_option maxHeartbeats 1000000 in
theorem same (w : World) (A B : Option Addr) (n m c d : Nat) (x y : List Int) (hx : Rd .u8 w A n x) (hy : Rd .u8 w B m y) (hn : n ≤ 140737488355328) (hm : m ≤ 140737488355328) :
    Calls Try.prog 12 #[.slice A n c, .slice B m d] w fun e w' => e = .returned (.bool (decide (x = y))) ∧ ∃ q, w' = w.drewN q := by
  have HX := hid hx.len
  have HY := hid hy.len
  by_cases hnm : n = m
  · subst hnm
    go_enter Try.func12, Try.ntmps12
    go_wp2_with fail
    go_loopw [5] (fun i wr => ∃ (j q : Nat), j ≤ n ∧ i = .int .i64 j ∧ Hid (x.take j = y.take j) ∧ wr = w.drewN q) (fun i _ => n - (intOf i).toNat)
    case atStart => exact ⟨0, 0, by omega, rfl, hid (by simp), rfl⟩
    case round =>
      obtain ⟨j, q, hj, rfl, HT, rfl⟩ := hrel
      by_cases hlt : j < n
      · obtain ⟨b, off, rfl, hc⟩ := hx.cells (by omega)
        obtain ⟨b', off', rfl, hc'⟩ := hy.cells (by omega)
        have q0 := hc j hlt
        have q1 := hc' j hlt
        have e0 : x.getD j 0 = x[j]'(by rw [HX.out]; exact hlt) := by simp [List.getD_eq_getElem?_getD, HX.out, hlt]
        have e1 : y.getD j 0 = y[j]'(by rw [HY.out]; exact hlt) := by simp [List.getD_eq_getElem?_getD, HY.out, hlt]
        have t0 := List.take_succ_eq_append_getElem (l := x) (i := j) (by rw [HX.out]; exact hlt)
        have t1 := List.take_succ_eq_append_getElem (l := y) (i := j) (by rw [HY.out]; exact hlt)
        rw [← e0] at t0
        rw [← e1] at t1
        have T0 := hid t0; have T1 := hid t1; clear t0 t1 e0 e1 hc hc'
        have HNE : Hid (x.getD j 0 ≠ y.getD j 0 → x ≠ y) := hid (fun h e => h (by rw [e]))
        generalize x.getD j 0 = u at *
        generalize y.getD j 0 = v at *
        by_cases huv : u = v
        · subst huv
          go_wp2
          go_quiet (fail)
          go_wp2
          go_roundw
          case rel => exact ⟨j + 1, _, by omega, by go_num, hid (by rw [T0.out, T1.out, HT.out]), rfl⟩
          case measure => simp [intOf]; omega
        · have hf : decide (x = y) = false := by simpa using HNE.out huv
          have HF := hid hf; clear hf
          go_wp2
          go_quiet (fail)
          go_wp2
          go_ret
          exact ⟨rBool HF.out.symm, q + nq, by rw [World.drewN_drewN]⟩
      · have ht : decide (x = y) = true := by
          have h1 := HT.out
          rw [List.take_of_length_le (by rw [HX.out]; omega), List.take_of_length_le (by rw [HY.out]; omega)] at h1
          simpa using h1
        have HF := hid ht; clear ht
        go_wp2
        go_ret
        exact ⟨rBool HF.out.symm, q, rfl⟩
  · have hf : decide (x = y) = false := by
      simp; intro e; exact hnm (by rw [← HX.out, ← HY.out, e])
    have HF := hid hf; clear hf
    go_enter Try.func12, Try.ntmps12
    go_wp2
    go_ret
    exact ⟨rBool HF.out.symm, 0, rfl⟩
end Go.Proofs.Ytdpmjghdmpaehaa.hlp
