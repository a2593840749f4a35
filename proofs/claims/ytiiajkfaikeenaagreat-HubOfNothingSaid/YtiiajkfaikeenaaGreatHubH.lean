/-
  Chapter 18 (hub): whether a step is more than is looked at, by a walk of the text. Conditions: none but those typed.
-/
import Derived.Test.YtiiajkfaikeenaaGreatWrt
import Derived.Deep.QuietTactic
import Derived.BigQuiet
namespace Go.Proofs.YtiiajkfaikeenaaGreat.hub
set_option linter.unusedVariables false
set_option linter.unusedSimpArgs false
open Go.ChangeShapes Go.WideShapes Go.ChangeAt Go.RowKit Go.IntWalk Go.Lib
/-- What heavy answers: if it says no, the data is short. -/
def HEnd (n : Nat) (w : World) (x : Ending) (w' : World) : Prop := ∃ t : Bool, x = .returned (.bool t) ∧ (t = false → n ≤ 20000) ∧ Only [] w w'
set_option maxRecDepth 100000 in
set_option maxHeartbeats 2000000 in
theorem heavy (w : World) (g : Nat) (T : TypeId) (s0 s1 s2 s3 s4 s5 : Int) (A6 : Option Addr) (n6 k6 : Nat) (c0 c1 c2 c3 c4 c5 c6 c7 c8 c10 : Int) (c9 : Bool) (fr to sq ac fp tp fl wi ms sc : Int) (A : Option Addr) (n c : Nat) (h : Ob w g T #[.int .i64 s0, .int .i64 s1, .int .i64 s2, .int .i64 s3, .int .i64 s4, .int .u32 s5, .slice A6 n6 k6, .int .u32 c0, .int .i64 c1, .int .u32 c2, .int .i64 c3, .int .u32 c4, .int .i64 c5, .int .i64 c6, .int .i64 c7, .int .i64 c8, .bool c9, .int .i64 c10, .int .u32 fr, .int .i64 fp, .int .u32 to, .int .i64 tp, .int .u32 sq, .int .u32 ac, .int .i64 fl, .int .i64 wi, .int .i64 ms, .int .i64 sc, .slice A n c]) (h6 : n6 ≤ 140737488351232) (hn : n ≤ 140737488351232) (hc6 : -9223372036854775808 ≤ c6 ∧ c6 ≤ 9223372036854775807) (hc7 : -9223372036854775808 ≤ c7 ∧ c7 ≤ 9223372036854775807) : Calls Tryz.prog 4 #[.slice (some ⟨g, 0, none⟩) 1 1] w (HEnd n w) := by
  have k6 : w.cell? ⟨g, 6, none⟩ = some (.slice A6 n6 k6) := by rw [h.cell]; rfl
  have k13 : w.cell? ⟨g, 13, none⟩ = some (.int .i64 c6) := by rw [h.cell]; rfl
  have k14 : w.cell? ⟨g, 14, none⟩ = some (.int .i64 c7) := by rw [h.cell]; rfl
  have k28 : w.cell? ⟨g, 28, none⟩ = some (.slice A n c) := by rw [h.cell]; rfl
  have HT : Hid (true = false → n ≤ 20000) := hid (by simp)
  clear h
  go_enter Tryz.func4, Tryz.ntmps4
  go_wp2
  go_loopw [3, 4] (fun v i wr => (i = .int .i64 0 ∧ v = .int .i64 0 ∧ w = wr) ∨ (i = .int .i64 1 ∧ Hid (Only [] w wr) ∧ ∃ z : Int, v = .int .i64 z ∧ n ≤ 20000)) (fun _ i _ => 1 - (RowKit.intOf i).toNat)
  case atStart => exact Or.inl ⟨rfl, rfl, rfl⟩
  case round =>
    rcases hrel with ⟨rfl, rfl, rfl⟩ | ⟨rfl, HW, z, rfl, hz⟩
    · by_cases m1 : c6 ≤ 0
      · have m2 : c6 < 1048576 := by omega
        have m3 : ¬ (1048576 < c6) := by omega
        have m4 : ¬ (0 < c6) := by omega
        have m5 : ¬ (1048576 ≤ c6) := by omega
        have m6 : c6 ≤ 1048576 := by omega
        have q2' : (c6 ≤ 70000) := by omega
        by_cases q1 : 20000 < (n6 : Int) + n
        · have q1' : ¬ ((n6 : Int) + n ≤ 20000) := by omega
          go_wp2
          go_quiet (fail)
          go_wp2
          go_ret
          exact ⟨true, rfl, HT.out, by first | exact (Only.refl [] w).drewN _ | exact Only.refl [] w⟩
        · by_cases q3 : 70000 < c7
          · have q3' : ¬ (c7 ≤ 70000) := by omega
            have q1' : (n6 : Int) + n ≤ 20000 := by omega
            go_wp2
            go_quiet (fail)
            go_wp2
            go_ret
            exact ⟨true, rfl, HT.out, by first | exact (Only.refl [] w).drewN _ | exact Only.refl [] w⟩
          · have q1' : (n6 : Int) + n ≤ 20000 := by omega
            have q3' : (c7 ≤ 70000) := by omega
            go_wp2
            go_quiet (fail)
            go_wp2
            go_roundw
            case rel => exact Or.inr ⟨rfl, hid ((Only.refl [] w).drewN _), _, rfl, by omega⟩
            case measure => simp [intOf]
      · by_cases m2 : c6 < 1048576
        · have m3 : ¬ (1048576 < c6) := by omega
          have m4 : 0 < c6 := by omega
          have m5 : ¬ (1048576 ≤ c6) := by omega
          have m6 : c6 ≤ 1048576 := by omega
          by_cases q1 : 20000 < (n6 : Int) + n + c6 / 100
          · have q1' : ¬ ((n6 : Int) + n + c6 / 100 ≤ 20000) := by omega
            go_wp2
            go_quiet (fail)
            go_wp2
            go_ret
            exact ⟨true, rfl, HT.out, by first | exact (Only.refl [] w).drewN _ | exact Only.refl [] w⟩
          · by_cases q2 : 70000 < c6
            · have q2' : ¬ (c6 ≤ 70000) := by omega
              go_wp2
              go_quiet (fail)
              go_wp2
              go_ret
              exact ⟨true, rfl, HT.out, by first | exact (Only.refl [] w).drewN _ | exact Only.refl [] w⟩
            · by_cases q3 : 70000 < c7
              · have q3' : ¬ (c7 ≤ 70000) := by omega
                go_wp2
                go_quiet (fail)
                go_wp2
                go_ret
                exact ⟨true, rfl, HT.out, by first | exact (Only.refl [] w).drewN _ | exact Only.refl [] w⟩
              · have q1' : (n6 : Int) + n + c6 / 100 ≤ 20000 := by omega
                have q2' : (c6 ≤ 70000) := by omega
                have q3' : (c7 ≤ 70000) := by omega
                go_wp2
                go_quiet (fail)
                go_wp2
                go_roundw
                case rel => exact Or.inr ⟨rfl, hid ((Only.refl [] w).drewN _), _, rfl, by omega⟩
                case measure => simp [intOf]
        · have m4 : 0 < c6 := by omega
          have m5 : 1048576 ≤ c6 := by omega
          have q2 : 70000 < c6 := by omega
          have HM : Hid (min c6 1048576 = 1048576) := hid (by omega)
          go_wp2
          go_quiet (fail)
          all_goals
            go_wp2
            all_goals
              go_ret
              exact ⟨true, rfl, HT.out, by first | exact (Only.refl [] w).drewN _ | exact Only.refl [] w⟩
    · have HZ := hid hz
      go_wp2
      go_ret
      exact ⟨false, rfl, fun _ => HZ.out, HW.out⟩
end Go.Proofs.YtiiajkfaikeenaaGreat.hub
