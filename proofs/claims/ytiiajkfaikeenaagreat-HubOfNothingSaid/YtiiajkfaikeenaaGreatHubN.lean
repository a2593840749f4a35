/-
  Chapter 18 (hub): what a nil Hub answers, by a walk of each text. Conditions: none but those typed.
-/
import Derived.Test.YtiiajkfaikeenaaGreatSegDh
namespace Go.Proofs.YtiiajkfaikeenaaGreat.hub
set_option linter.unusedVariables false
set_option linter.unusedSimpArgs false
open Go.ChangeShapes Go.WideShapes Go.ChangeAt Go.RowKit Go.IntWalk Go.Lib
theorem nilListen (w : World) (a p k : Int) : Calls Tryz.prog 5 #[.pointer none, .int .u32 a, .int .i64 p, .int .i64 k] w fun x w' => x = .returned (.tuple #[.int .i64 0, .int .i64 1]) ∧ Only [] w w' := by
  go_enter Tryz.func5, Tryz.ntmps5
  go_wp2
  go_ret2
  exact ⟨rfl, by repeat (first | exact Only.refl _ _ | refine Only.alloc ?_ _ | refine Only.drew ?_ | refine Only.drewN ?_ _)⟩
theorem nilDeaf (w : World) (a : Int) : Calls Tryz.prog 6 #[.pointer none, .int .i64 a] w fun x w' => x = .returned (.tuple #[.slice none 0 0, .int .i64 1]) ∧ Only [] w w' := by
  go_enter Tryz.func6, Tryz.ntmps6
  go_wp2
  go_ret2
  exact ⟨rfl, by repeat (first | exact Only.refl _ _ | refine Only.alloc ?_ _ | refine Only.drew ?_ | refine Only.drewN ?_ _)⟩
theorem nilOpen (w : World) (c0 c1 c2 c3 c4 c5 c6 c7 c8 c10 : Int) (c9 : Bool) (t : Int) : Calls Tryz.prog 7 #[.pointer none, .agg #[.int .u32 c0, .int .i64 c1, .int .u32 c2, .int .i64 c3, .int .u32 c4, .int .i64 c5, .int .i64 c6, .int .i64 c7, .int .i64 c8, .bool c9, .int .i64 c10], .int .i64 t] w fun x w' => x = .returned (.tuple #[.int .i64 0, .slice none 0 0, .int .i64 1]) ∧ Only [] w w' := by
  go_enter Tryz.func7, Tryz.ntmps7
  go_wp2
  go_ret3
  exact ⟨rfl, by repeat (first | exact Only.refl _ _ | refine Only.alloc ?_ _ | refine Only.drew ?_ | refine Only.drewN ?_ _)⟩
theorem nilAccept (w : World) (a : Int) : Calls Tryz.prog 8 #[.pointer none, .int .i64 a] w fun x w' => x = .returned (.tuple #[.int .i64 0, .int .i64 1]) ∧ Only [] w w' := by
  go_enter Tryz.func8, Tryz.ntmps8
  go_wp2
  go_ret2
  exact ⟨rfl, by repeat (first | exact Only.refl _ _ | refine Only.alloc ?_ _ | refine Only.drew ?_ | refine Only.drewN ?_ _)⟩
theorem nilSend (w : World) (a t : Int) (B : Option Addr) (m e : Nat) : Calls Tryz.prog 9 #[.pointer none, .int .i64 a, .slice B m e, .int .i64 t] w fun x w' => x = .returned (.tuple #[.int .i64 0, .slice none 0 0, .int .i64 1]) ∧ Only [] w w' := by
  go_enter Tryz.func9, Tryz.ntmps9
  go_wp2
  go_ret3
  exact ⟨rfl, by repeat (first | exact Only.refl _ _ | refine Only.alloc ?_ _ | refine Only.drew ?_ | refine Only.drewN ?_ _)⟩
theorem nilRecv (w : World) (a b t : Int) : Calls Tryz.prog 10 #[.pointer none, .int .i64 a, .int .i64 b, .int .i64 t] w fun x w' => x = .returned (.tuple #[.slice none 0 0, .slice none 0 0, .int .i64 1]) ∧ Only [] w w' := by
  go_enter Tryz.func10, Tryz.ntmps10
  go_wp2
  go_ret3
  exact ⟨rfl, by repeat (first | exact Only.refl _ _ | refine Only.alloc ?_ _ | refine Only.drew ?_ | refine Only.drewN ?_ _)⟩
theorem nilShut (w : World) (a t : Int) : Calls Tryz.prog 11 #[.pointer none, .int .i64 a, .int .i64 t] w fun x w' => x = .returned (.tuple #[.slice none 0 0, .int .i64 1]) ∧ Only [] w w' := by
  go_enter Tryz.func11, Tryz.ntmps11
  go_wp2
  go_ret2
  exact ⟨rfl, by repeat (first | exact Only.refl _ _ | refine Only.alloc ?_ _ | refine Only.drew ?_ | refine Only.drewN ?_ _)⟩
theorem nilDrop (w : World) (a t : Int) : Calls Tryz.prog 12 #[.pointer none, .int .i64 a, .int .i64 t] w fun x w' => x = .returned (.tuple #[.slice none 0 0, .int .i64 1]) ∧ Only [] w w' := by
  go_enter Tryz.func12, Tryz.ntmps12
  go_wp2
  go_ret2
  exact ⟨rfl, by repeat (first | exact Only.refl _ _ | refine Only.alloc ?_ _ | refine Only.drew ?_ | refine Only.drewN ?_ _)⟩
theorem nilCount (w : World)  : Calls Tryz.prog 13 #[.pointer none] w fun x w' => x = .returned (.tuple #[.int .i64 0, .int .i64 0]) ∧ Only [] w w' := by
  go_enter Tryz.func13, Tryz.ntmps13
  go_wp2
  go_ret2
  exact ⟨rfl, by repeat (first | exact Only.refl _ _ | refine Only.alloc ?_ _ | refine Only.drew ?_ | refine Only.drewN ?_ _)⟩
theorem nilTick (w : World) (t : Int) : Calls Tryz.prog 15 #[.pointer none, .int .i64 t] w fun x w' => x = .returned (.slice none 0 0) ∧ Only [] w w' := by
  go_enter Tryz.func15, Tryz.ntmps15
  go_wp2
  go_ret
  exact ⟨rfl, by repeat (first | exact Only.refl _ _ | refine Only.alloc ?_ _ | refine Only.drew ?_ | refine Only.drewN ?_ _)⟩
set_option maxHeartbeats 2000000 in
theorem nilArrive (w : World) (fr to sq ac fp tp fl wi ms sc : Int) (A : Option Addr) (n c : Nat) (c0 c1 c2 c3 c4 c5 c6 c7 c8 c10 : Int) (c9 : Bool) (t : Int) (l : List Int) (hl : Rd .u8 w A n l) (hc0 : A = none → c = 0) (hn : n ≤ 70000) : Calls Tryz.prog 14 #[.pointer none, .agg #[.int .u32 fr, .int .i64 fp, .int .u32 to, .int .i64 tp, .int .u32 sq, .int .u32 ac, .int .i64 fl, .int .i64 wi, .int .i64 ms, .int .i64 sc, .slice A n c], .agg #[.int .u32 c0, .int .i64 c1, .int .u32 c2, .int .i64 c3, .int .u32 c4, .int .i64 c5, .int .i64 c6, .int .i64 c7, .int .i64 c8, .bool c9, .int .i64 c10], .int .i64 t] w fun x w' => x = .returned (.slice none 0 0) ∧ Only [] w w' := by
  have henc : ∀ W : World, Only [] w W → Calls Tryz.prog 34 #[.agg #[.int .u32 fr, .int .i64 fp, .int .u32 to, .int .i64 tp, .int .u32 sq, .int .u32 ac, .int .i64 fl, .int .i64 wi, .int .i64 ms, .int .i64 sc, .slice A n c]] W fun x w' => ∃ v er, x = .returned (.tuple #[v, .int .i64 er]) ∧ Only [] W w' := fun W o => by
    by_cases hk : seg.chk fp tp fl wi ms sc n = 0
    · refine (seg.enc1 W fr to sq ac fp tp fl wi ms sc A n c l (hl.only_nil o) hc0 hn hk).mono ?_
      rintro x w' ⟨v, rfl, _, o2⟩
      exact ⟨v, 0, rfl, o2⟩
    · refine (seg.encE W fr to sq ac fp tp fl wi ms sc A n c hk).mono ?_
      rintro x w' ⟨rfl, o2⟩
      exact ⟨_, _, rfl, o2⟩
  have HE := hid henc
  clear henc hl
  go_enter Tryz.func14, Tryz.ntmps14
  go_wp2_with fail
  refine (HE.out _ (((Only.refl [] w).alloc _).alloc _)).mono ?_
  rintro x w2 ⟨v, er, rfl, o2⟩
  have O2 : Hid (Only [] w w2) := hid ((((Only.refl [] w).alloc _).alloc _).trans o2)
  clear o2
  go_wp2
  go_ret
  exact ⟨rfl, O2.out⟩
end Go.Proofs.YtiiajkfaikeenaaGreat.hub
