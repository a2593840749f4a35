/-
  The laws' own helpers: whether two rows of bytes are the same, a row with marked room behind it, and a row spoilt, by a walk of each text. Conditions: none but those typed.
-/
import Derived.Test.YtngaolagifgfjaaRows
import Derived.Test.YtngaolagifgfjaaOwn
import Derived.Test.YtngaolagifgfjaaBit
import Derived.Deep.QuietTactic
import Derived.BigQuiet
namespace Go.Proofs.Ytngaolagifgfjaa.hlp
set_option linter.unusedVariables false
set_option linter.unusedSimpArgs false
open Go.ChangeShapes Go.WideShapes Go.ChangeAt Go.RowKit Go.IntWalk Go.Lib
theorem elemB : Elem Try.prog 24 5 .u8 1 := ⟨Try.underlying24, by kernel_rfl⟩
theorem u8wf {z : Int} (h : 0 ≤ z ∧ z ≤ 255) : (Lit.int .u8 z).wf = true := (Lit.wf_int_iff .u8 z).2 h
set_option maxHeartbeats 1000000 in
theorem same (w : World) (A B : Option Addr) (n m c d : Nat) (x y : List Int) (hx : Rd .u8 w A n x) (hy : Rd .u8 w B m y) (hn : n ≤ 140737488355328) (hm : m ≤ 140737488355328) :
    Calls Try.prog 20 #[.slice A n c, .slice B m d] w fun e w' => e = .returned (.bool (decide (x = y))) ∧ ∃ q, w' = w.drewN q := by
  have HX := hid hx.len
  have HY := hid hy.len
  by_cases hnm : n = m
  · subst hnm
    go_enter Try.func20, Try.ntmps20
    go_wp2_with fail
    go_loopw [5] (fun i wr => ∃ (j q : Nat), j ≤ n ∧ i = .int .i64 j ∧ Hid (x.take j = y.take j) ∧ wr = w.drewN q) (fun i _ => n - (intOf i).toNat)
    case atStart => exact ⟨0, 0, by omega, rfl, hid (by simp), rfl⟩
    case round =>
      obtain ⟨j, q, hj, rfl, HT, rfl⟩ := hrel
      by_cases hlt : j < n
      · obtain ⟨b, off, rfl, hc⟩ := hx.cells (by omega)
        obtain ⟨b', off', rfl, hc'⟩ := hy.cells (by omega)
        have q0 := hc j hlt
        have q1 := hc' j hlt
        have e0 : x.getD j 0 = x[j]'(by rw [HX.out]; exact hlt) := by simp [List.getD_eq_getElem?_getD, HX.out, hlt]
        have e1 : y.getD j 0 = y[j]'(by rw [HY.out]; exact hlt) := by simp [List.getD_eq_getElem?_getD, HY.out, hlt]
        have t0 := List.take_succ_eq_append_getElem (l := x) (i := j) (by rw [HX.out]; exact hlt)
        have t1 := List.take_succ_eq_append_getElem (l := y) (i := j) (by rw [HY.out]; exact hlt)
        rw [← e0] at t0
        rw [← e1] at t1
        have T0 := hid t0; have T1 := hid t1; clear t0 t1 e0 e1 hc hc'
        have HNE : Hid (x.getD j 0 ≠ y.getD j 0 → x ≠ y) := hid (fun h e => h (by rw [e]))
        generalize x.getD j 0 = u at *
        generalize y.getD j 0 = v at *
        by_cases huv : u = v
        · subst huv
          go_wp2
          go_quiet (fail)
          go_wp2
          go_roundw
          case rel => exact ⟨j + 1, _, by omega, by go_num, hid (by rw [T0.out, T1.out, HT.out]), rfl⟩
          case measure => simp [intOf]; omega
        · have hf : decide (x = y) = false := by simpa using HNE.out huv
          have HF := hid hf; clear hf
          go_wp2
          go_quiet (fail)
          go_wp2
          go_ret
          exact ⟨rBool HF.out.symm, q + nq, by rw [World.drewN_drewN]⟩
      · have ht : decide (x = y) = true := by
          have h1 := HT.out
          rw [List.take_of_length_le (by rw [HX.out]; omega), List.take_of_length_le (by rw [HY.out]; omega)] at h1
          simpa using h1
        have HF := hid ht; clear ht
        go_wp2
        go_ret
        exact ⟨rBool HF.out.symm, q, rfl⟩
  · have hf : decide (x = y) = false := by
      simp; intro e; exact hnm (by rw [← HX.out, ← HY.out, e])
    have HF := hid hf; clear hf
    go_enter Try.func20, Try.ntmps20
    go_wp2
    go_ret
    exact ⟨rBool HF.out.symm, 0, rfl⟩
set_option maxHeartbeats 1000000 in
theorem roomy (w : World) (A : Option Addr) (n c : Nat) (l : List Int) (hl : Rd .u8 w A n l) (hc0 : A = none → c = 0) (hn : n ≤ 100000) :
    Calls Try.prog 12 #[.slice A n c] w fun e w' => ∃ (g cap : Nat), e = .returned (.slice (some ⟨g, 0, none⟩) (n + 1) cap) ∧ Own .u8 5 w' w.heap.size (.slice (some ⟨g, 0, none⟩) (n + 1) cap) (l ++ [171]) ∧ Only [] w w' := by
  have HLen := hid hl.len
  have H0 : Hid (Own .u8 5 (w.alloc (.cells #[] 5)) w.heap.size (.slice (some ⟨w.heap.size, 0, none⟩) 0 0) []) := hid (Own.lit .u8 _ w _ [] _ 0 rfl rfl (Nat.le_refl _) (by decide) (by simp))
  go_enter Try.func12, Try.ntmps12
  go_wp2_with (at_builtin; refine wpList_app _ rfl (.tmp 3) (.tmp 4) _ rfl elemB w.heap.size _ [] rfl ?c1 A n c l rfl ?c2 ?c3 ?c4 ?c5 ?c6 ?_)
  case c1 => exact H0.out
  case c2 => exact hl.alloc _
  case c3 => exact hc0
  case c4 => simp; omega
  case c5 => unfold maxLen; simp; omega
  case c6 => simp
  intro v1 w1 hv1 hg1 hb1
  have V1 : Hid (Own .u8 5 w1 w.heap.size v1 l) := hid hv1
  have G1 : Hid (Only [] w w1) := hid (((Only.refl [] w).alloc _).of_grown hg1 (by intro k hk; simp [Value.ownBlock] at hk; omega))
  have s1 := G1.out.size
  clear hv1 hg1 hb1
  go_wp2_with (at_builtin; refine wpList_app _ rfl (.tmp 5) (.tmp 6) _ rfl elemB w.heap.size v1 l rfl ?c1 (some ⟨w1.heap.size, 0, none⟩) 1 1 [171] rfl ?c2 ?c3 ?c4 ?c5 ?c6 ?_)
  case c1 => exact V1.out.alloc _
  case c2 => exact (Own.lit .u8 5 w1 w.heap.size [171] _ 1 rfl rfl s1 (by decide) (by decide)).rd
  case c3 => simp
  case c4 => rw [HLen.out]; omega
  case c5 => rw [HLen.out]; unfold maxLen; omega
  case c6 => simp; omega
  intro v2 w2 hv2 hg2 hb2
  have V2 := hid hv2
  have G2 : Hid (Only [] w w2) := hid ((G1.out.alloc _).of_grown hg2 (fun k hk => .inr (V1.out.lt k hk).1))
  have s2 := G2.out.size
  clear hv2 hg2 hb2
  go_wp2_with (at_builtin; refine wpList_app _ rfl (.tmp 7) (.tmp 8) _ rfl elemB w.heap.size v2 (l ++ [171]) rfl ?c1 (some ⟨w2.heap.size, 0, none⟩) 1 1 [171] rfl ?c2 ?c3 ?c4 ?c5 ?c6 ?_)
  case c1 => exact V2.out.alloc _
  case c2 => exact (Own.lit .u8 5 w2 w.heap.size [171] _ 1 rfl rfl s2 (by decide) (by decide)).rd
  case c3 => simp
  case c4 => rw [List.length_append, HLen.out]; simp; omega
  case c5 => rw [List.length_append, HLen.out]; unfold maxLen; simp; omega
  case c6 => simp; omega
  intro v3 w3 hv3 hg3 hb3
  have G3 : Hid (Only [] w w3) := hid ((G2.out.alloc _).of_grown hg3 (fun k hk => .inr (V2.out.lt k hk).1))
  have V3 := hid hv3
  clear hv3 hg3 hb3
  obtain ⟨g, cap, e3⟩ := V3.out.some_form (by simp)
  simp only [List.length_append, HLen.out, List.length_cons, List.length_nil, Nat.zero_add, Nat.reduceAdd] at e3
  subst e3
  have hcap := V3.out.len
  obtain ⟨_, hc1, hc2⟩ := hcap
  go_wp2
  go_ret
  refine ⟨g, cap, rfl, ?_, G3.out⟩
  have := V3.out.pre (m := n + 1) (by omega)
  rw [show n + 1 = l.length + 1 from by rw [HLen.out], List.take_length_add_append] at this
  rw [HLen.out] at this
  exact this
set_option maxHeartbeats 1000000 in
theorem stands (w : World) (A B : Option Addr) (n cap d : Nat) (l : List Int) (hx : Rd .u8 w A (n + 1) (l ++ [171])) (hc : n + 1 ≤ cap) (hy : Rd .u8 w B n l) (hn : n ≤ 100000) :
    Calls Try.prog 16 #[.slice A (n + 1) cap, .slice B n d] w fun e w' => e = .returned (.bool true) ∧ ∃ m, w' = w.drewN m := by
  have HY := hid hy.len
  obtain ⟨g, off, rfl, hc2⟩ := hx.cells (by omega)
  have q := hc2 n (by omega)
  have e : (l ++ [171]).getD n 0 = 171 := by rw [← HY.out]; simp [List.getD_eq_getElem?_getD]
  rw [e] at q
  clear e hc2
  have ht := hx.take n (by omega)
  rw [List.take_append_of_le_length (by rw [HY.out]; exact Nat.le_refl n), List.take_of_length_le (by rw [HY.out]; exact Nat.le_refl n)] at ht
  have HT := hid ht; clear ht
  go_enter Try.func16, Try.ntmps16
  go_wp2_with fail
  refine (same w _ B n n _ d l l HT.out hy (by omega) (by omega)).mono ?_
  rintro e w2 ⟨rfl, m, rfl⟩
  rw [show decide (l = l) = true from by simp]
  go_wp2
  go_ret
  exact ⟨rfl, m, rfl⟩
set_option maxHeartbeats 1000000 in
theorem spoilO (w : World) (base : Nat) (v : Value) (l : List Int) (h : Own .u8 5 w base v l) (hb : base ≤ w.heap.size) (hn : l.length ≤ 200000) :
    Calls Try.prog 17 #[v] w fun e w' => e = .returned (.tuple #[]) ∧ Only v.ownBlock.toList w w' := by
  have H := hid h; clear h
  have Q0 : Hid (Only v.ownBlock.toList w (w.alloc (.cells #[.int .u8 99] 5))) := hid ((Only.refl _ w).alloc _)
  generalize hS : v.ownBlock.toList = S at *
  have HS := hid hS; clear hS
  go_enter Try.func17, Try.ntmps17
  go_wp2_with (at_builtin; refine wpList_app _ rfl (.tmp 4) (.tmp 5) _ rfl elemB base v l rfl ?c1 (some ⟨w.heap.size, 0, none⟩) 1 1 [99] rfl ?c2 ?c3 ?c4 ?c5 ?c6 ?_)
  case c1 => exact H.out.alloc _
  case c2 => exact (Own.lit .u8 5 w base [99] _ 1 rfl rfl hb (by decide) (by decide)).rd
  case c3 => simp
  case c4 => omega
  case c5 => unfold maxLen; omega
  case c6 => simp; omega
  intro v1 w1 hv hg hb1
  have B1 : Hid (Only S w w1) := hid (Q0.out.of_grown hg (fun k hk => .inl (by rw [← HS.out, hk]; simp)))
  have V1 := hid hv
  have HB1 := hid hb1
  clear hv hg hb1
  obtain ⟨g, cap, e1⟩ := V1.out.some_form (by simp)
  have HL : Hid ((l ++ [99]).length = l.length + 1) := hid (by simp)
  rw [HL.out] at e1
  subst e1
  have HG : Hid (g ∈ S ∨ w.heap.size ≤ g) := hid (by
    rcases HB1.out with h1 | h1
    · left
      rw [← HS.out, ← h1]
      simp [Value.ownBlock]
    · right
      simp [Value.ownBlock] at h1
      omega)
  clear HB1
  generalize l ++ [99] = l1 at *
  generalize l.length = n at *
  go_wp2_with fail
  go_loopw [3] (fun i wr => ∃ (j : Nat) (l' : List Int), j ≤ n + 1 ∧ i = .int .i64 j ∧ Hid (Own .u8 5 wr base (.slice (some ⟨g, 0, none⟩) (n + 1) cap) l') ∧ Hid (Only S w wr)) (fun i _ => n + 1 - (intOf i).toNat)
  case atStart => exact ⟨0, l1, by omega, rfl, V1, B1⟩
  case round =>
    obtain ⟨j, l', hj, rfl, HV, HB⟩ := hrel
    by_cases hlt : j < n + 1
    · have c0 := HV.out.cellD j hlt
      have f0 := HV.out.frozen j
      go_wp2
      go_roundw
      case rel => exact ⟨j + 1, l'.set j 98, by omega, by go_num, hid (HV.out.set j 98 (by decide)), hid (HB.out.setCell (p := ⟨g, j, none⟩) HG.out _)⟩
      case measure => simp [intOf]; omega
    · go_wp2
      refine bodyPost_end (results_none rfl _ _ _) rfl ?_
      exact ⟨rfl, HB.out⟩
theorem spoil (w : World) (base : Nat) (v : Value) (l : List Int) (h : Own .u8 5 w base v l) (hb : base ≤ w.heap.size) (hn : l.length ≤ 200000) :
    Calls Try.prog 17 #[v] w fun e w' => e = .returned (.tuple #[]) ∧ Below base w w' := by
  refine (spoilO w base v l h hb hn).mono ?_
  rintro e w' ⟨he, ho⟩
  refine ⟨he, Only.below (Below.refl _ _) ho hb (fun k hk => (h.lt k (by simpa using hk)).1)⟩
end Go.Proofs.Ytngaolagifgfjaa.hlp
