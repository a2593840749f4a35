/-
  Chapter 21 (name): slices.Grow of no records, slices.Concat of two rows of records, by a walk of each text. Conditions: none but those typed.
-/
import Derived.Test.YtfoecnlbiaiibaaNamHg
import Derived.Lib.AppendZerosOnto
import Derived.Lib.SliceRun
import Derived.Lib.Walk
namespace Go.Proofs.Ytfoecnlbiaiibaa.nam
set_option linter.unusedVariables false
set_option linter.unusedSimpArgs false
open Go.ChangeShapes Go.WideShapes Go.ChangeAt Go.RowKit Go.IntWalk Go.Lib
theorem elemRec : ElemS Try.prog 37 46 (.agg #[.string ⟨#[]⟩, .int .i64 0, .int .i64 0, .int .i64 0, .slice none 0 0]) 5 64 := ⟨Try.underlying37, by kernel_rfl, by kernel_rfl, by decide⟩
set_option maxHeartbeats 2000000 in
theorem grow1 (w : World) (n : Nat) (hn : n ≤ 1000000) : Calls Try.prog 54 #[.slice none 0 0, .int .i64 n] w fun x w' => ∃ v, x = .returned v ∧ w'.ownsRow w.heap.size 46 5 v 0 [] ∧ Only [] w w' := by
  have h0 : ¬ (n : Int) < 0 := by omega
  by_cases h1 : (0 : Int) < (n : Int)
  · obtain ⟨i, hi, hz, hsz, hby⟩ := info_parts elemRec.info
    have hold : (Builtin.firstCells i.size 0 (.slice none 0 0)).run Try.prog w.drew = .ok ([] : List Value).toArray w.drew := run_firstCells_none w.drew i.size 0 0 0
    have hrz := fun ty => Lib.run_append_grow_zeros (P := Try.prog) w 37 3 ty 46 i _ .i64 .i64 Try.underlying37 Try.underlying3 hi hz none 0 0 [] hold n (by omega) (by omega) (by omega) (by omega) (by rw [hby]; omega) (by rw [hby]; exact growslice_fits (by omega) (by omega))
    simp only [Nat.zero_add] at hrz
    have hGn : n ≤ grownCap w n 0 46 := grownCap_ge w _ _ _
    have hGm : grownCap w n 0 46 ≤ maxLen := grownCap_le_maxLen w n 0 46 (by unfold maxLen; omega)
    obtain ⟨G, hG⟩ : ∃ G, grownCap w n 0 46 = G := ⟨_, rfl⟩
    rw [hG] at hGn hGm
    simp only [hG] at hrz
    have hG63 : G ≤ 9223372036854775807 := by unfold maxLen at hGm; omega
    have HGm := hid hGm
    clear hold hG hi hz hGm
    go_enter Try.func54, Try.ntmps54
    go_wp2_with (at_builtin; refine Lib.wpList_append_run _ rfl _ _ _ _ rfl _ _ rfl rfl _ _ (hrz _) ?_)
    clear hrz
    go_wp2_with fail
    go_ret
    refine ⟨_, rfl, ⟨rfl, .inr ⟨w.heap.size, G, _, rfl, Nat.le_refl _, heap_alloc_new w.drew _, Nat.zero_le _, HGm.out, ?_, by simp⟩⟩, ((Only.refl [] w).drew).alloc _⟩
    simp only [Array.size_append, size_zeroCells, List.size_toArray]
    show n * 5 + (G - n) * 5 = G * 5
    omega
  · go_enter Try.func54, Try.ntmps54
    go_wp2_with fail
    go_ret
    exact ⟨_, rfl, ⟨rfl, .inl ⟨rfl, rfl⟩⟩, Only.refl _ _⟩
set_option maxHeartbeats 4000000 in
set_option maxRecDepth 100000 in
theorem concat1 (w : World) (b : Nat) (A1 A2 : Option Addr) (n1 n2 d1 d2 : Nat) (x1 x2 : List Value) (k0 : w.cell? ⟨b, 0, none⟩ = some (.slice A1 n1 d1)) (k1 : w.cell? ⟨b, 1, none⟩ = some (.slice A2 n2 d2))
    (r1 : RdS w A1 n1 5 x1) (r2 : RdS w A2 n2 5 x2) (z1 : A1 = none → d1 = 0) (z2 : A2 = none → d2 = 0) (f1 : A1 = none ∨ ∃ b off, A1 = some ⟨b, off, none⟩) (f2 : A2 = none ∨ ∃ b off, A2 = some ⟨b, off, none⟩) (h1 : n1 ≤ 100000) (h2 : n2 ≤ 100000) :
    Calls Try.prog 46 #[.slice (some ⟨b, 0, none⟩) 2 2] w fun x w' => ∃ v, x = .returned v ∧ w'.ownsRow w.heap.size 46 5 v (n1 + n2) (x1 ++ x2) ∧ Only [] w w' := by
  have HR1 := hid r1; have HR2 := hid r2; have HZ1 := hid z1; have HZ2 := hid z2; have HF1 := hid f1; have HF2 := hid f2
  have HK0 := hid k0; have HK1 := hid k1
  clear r1 r2 z1 z2 f1 f2 k0 k1
  go_enter Try.func46, Try.ntmps46
  go_wp2_with fail
  go_loopw [3, 5, 11] (fun v3 v5 v11 wr => ∃ k z : Nat, v11 = .int .i64 k ∧ v3 = .int .i64 z ∧ Hid (wr = w) ∧ ((k = 0 ∧ z = 0) ∨ (k = 1 ∧ z = n1) ∨ (k = 2 ∧ z = n1 + n2))) (fun _ _ v11 _ => 2 - (RowKit.intOf v11).toNat)
  case atStart => exact ⟨0, 0, rfl, rfl, hid rfl, .inl ⟨rfl, rfl⟩⟩
  case round =>
    obtain ⟨k, z, rfl, rfl, HW, hkz⟩ := hrel
    obtain rfl := HW.out
    clear HW
    rcases hkz with ⟨rfl, rfl⟩ | ⟨rfl, rfl⟩ | ⟨rfl, rfl⟩
    · have q0 := HK0.out
      have hnn : ¬ (n1 : Int) < 0 := by omega
      go_wp2_with fail
      go_roundw
      case measure => decide
      case rel => exact ⟨1, n1, by first | rfl | go_num, by first | rfl | (simp; done) | go_num, hid (by first | rfl | trivial), .inr (.inl ⟨rfl, rfl⟩)⟩
    · have q0 := HK1.out
      have hnn : ¬ (z : Int) + (n2 : Int) < 0 := by omega
      go_wp2_with fail
      go_roundw
      case measure => decide
      case rel => exact ⟨2, z + n2, by first | rfl | go_num, by first | rfl | (simp; done) | go_num, hid (by first | rfl | trivial), .inr (.inr ⟨rfl, rfl⟩)⟩
    · obtain ⟨wz, hwz⟩ : ∃ wz, wz = wr := ⟨_, rfl⟩
      subst hwz
      go_wp2_with fail
      refine (grow1 wz (n1 + n2) (by omega)).mono ?_
      rintro x w2 ⟨v, rfl, hv, o2⟩
      have HV := hid hv; have Q2 := hid o2
      clear hv o2
      go_wp2_with fail
      go_loopw [6, 8, 27] (fun v6 v8 v27 wq => ∃ (k m : Nat) (v : Value) (xs : List Value), v = v6 ∧ v27 = .int .i64 k ∧ Hid (wq.ownsRow wz.heap.size 46 5 v m xs) ∧ Hid (Only [] wz wq) ∧ ((k = 0 ∧ m = 0 ∧ xs = []) ∨ (k = 1 ∧ m = n1 ∧ xs = x1) ∨ (k = 2 ∧ m = n1 + n2 ∧ xs = x1 ++ x2))) (fun _ _ v27 _ => 2 - (RowKit.intOf v27).toNat)
      case atStart => exact ⟨0, 0, v, [], rfl, rfl, HV, Q2, .inl ⟨rfl, rfl, rfl⟩⟩
      case round =>
        obtain ⟨k, m, v, xs, rfl, rfl, HV, HB, hkz⟩ := hrel
        rcases hkz with ⟨rfl, rfl, rfl⟩ | ⟨rfl, rfl, rfl⟩ | ⟨rfl, rfl, rfl⟩
        · have q0 := HB.out.keep HK0.out
          have RR := hid (HR1.out.only_nil HB.out)
          go_wp2_with (at_builtin; refine wpList_appS _ rfl (.tmp 31) (.tmp 32) _ rfl elemRec wz.heap.size v 0 [] rfl HV.out A1 n1 d1 x1 rfl RR.out HZ1.out HF1.out (by omega) (by unfold maxLen; omega) HB.out.size ?_)
          intro v4 w4 hv4 hg4 _
          have B4 : Hid (Only [] wz w4) := hid (HB.out.of_grown hg4 (fun k hk => .inr (own_lt HV.out k hk).1))
          have V4 : Hid (w4.ownsRow wz.heap.size 46 5 v4 (n1) (x1)) := hid (by simpa using hv4)
          clear hv4 hg4 q0
          go_wp2_with fail
          go_roundw
          case measure => decide
          case rel => exact ⟨1, n1, v4, x1, rfl, by first | rfl | go_num, V4, B4, .inr (.inl ⟨rfl, rfl, rfl⟩)⟩
        · have q0 := HB.out.keep HK1.out
          have RR := hid (HR2.out.only_nil HB.out)
          go_wp2_with (at_builtin; refine wpList_appS _ rfl (.tmp 31) (.tmp 32) _ rfl elemRec wz.heap.size v m xs rfl HV.out A2 n2 d2 x2 rfl RR.out HZ2.out HF2.out (by omega) (by unfold maxLen; omega) HB.out.size ?_)
          intro v4 w4 hv4 hg4 _
          have B4 : Hid (Only [] wz w4) := hid (HB.out.of_grown hg4 (fun k hk => .inr (own_lt HV.out k hk).1))
          have V4 : Hid (w4.ownsRow wz.heap.size 46 5 v4 (m + n2) (xs ++ x2)) := hid (by simpa using hv4)
          clear hv4 hg4 q0
          go_wp2_with fail
          go_roundw
          case measure => decide
          case rel => exact ⟨2, m + n2, v4, xs ++ x2, rfl, by first | rfl | go_num, V4, B4, .inr (.inr ⟨rfl, rfl, rfl⟩)⟩
        · go_wp2_with fail
          go_ret
          exact ⟨_, rfl, HV.out, HB.out⟩
end Go.Proofs.Ytfoecnlbiaiibaa.nam
