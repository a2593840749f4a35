/-
  Contracts of the functions of chapter 12 (seq), each by a walk of its text, part 1. Conditions: none but those typed.
-/
import Derived.Test.YtemjoiionpomoaaRows
import Derived.WalkKit
import Derived.ProofKit
import Derived.OpenShut

import Derived.IntWalk
import Derived.LoopTactic
import Derived.Lib.Hide
namespace Go.Proofs.Ytemjoiionpomoaa
set_option linter.unusedVariables false
set_option linter.unusedSimpArgs false
open Go.ChangeShapes Go.WideShapes Go.ChangeAt Go.RowKit Go.IntWalk
theorem rInt {k : IntKind} {a b : Int} (h : a = b) : Ending.returned (.int k a) = .returned (.int k b) := by rw [h]
theorem rBool {a b : Bool} (h : a = b) : Ending.returned (.bool a) = .returned (.bool b) := by rw [h]
def dif (a b : Int) : Int := ((a - b) % 4294967296 + 2147483648) % 4294967296 - 2147483648
theorem dif_bd (a b : Int) : -2147483648 ≤ dif a b ∧ dif a b ≤ 2147483647 := by
  unfold dif; omega
theorem dif_64 (a b : Int) : wrap64 (wrap32 ((a - b) % 4294967296)) = dif a b := by
  unfold dif wrap32
  exact wrap64_in _ (by omega)
theorem diff1 (a b : Int) (w : World) :
    Calls Try.prog 9 #[.int .u32 a, .int .u32 b] w fun e w' => e = .returned (.int .i64 (dif a b)) ∧ w' = w := by
  go_enter Try.func9, Try.ntmps9
  go_wp2
  go_ret
  exact ⟨rInt (dif_64 a b), rfl⟩
theorem diff2 (a b : Int) (w : World) :
    Calls Try.prog 10 #[.int .u32 a, .int .u32 b] w fun e w' => e = .returned (.int .i64 (dif a b)) ∧ w' = w := by
  go_enter Try.func10, Try.ntmps10
  go_wp2
  go_ret
  exact ⟨rInt (dif_64 a b), rfl⟩
theorem less1 (a b : Int) (w : World) :
    Calls Try.prog 11 #[.int .u32 a, .int .u32 b] w fun e w' => e = .returned (.bool (decide (dif a b < 0))) ∧ w' = w := by
  go_enter Try.func11, Try.ntmps11
  go_wp2_with (go_at_call 9; refine (diff1 _ _ _).mono ?_; rintro e w' ⟨rfl, rfl⟩)
  go_ret
  exact ⟨rfl, rfl⟩
theorem less2 (a b : Int) (w : World) :
    Calls Try.prog 12 #[.int .u32 a, .int .u32 b] w fun e w' => e = .returned (.bool (decide (dif a b < 0))) ∧ w' = w := by
  go_enter Try.func12, Try.ntmps12
  go_wp2_with (go_at_call 10; refine (diff2 _ _ _).mono ?_; rintro e w' ⟨rfl, rfl⟩)
  go_ret
  exact ⟨rfl, rfl⟩
def mx (a b : Int) : Int := if dif a b < 0 then b else a
theorem max1 (a b : Int) (w : World) :
    Calls Try.prog 13 #[.int .u32 a, .int .u32 b] w fun e w' => e = .returned (.int .u32 (mx a b)) ∧ w' = w := by
  unfold mx
  by_cases h : dif a b < 0
  all_goals
    go_enter Try.func13, Try.ntmps13
    go_wp2_with (go_at_call 11; refine (less1 _ _ _).mono ?_; rintro e w' ⟨rfl, rfl⟩)
    go_ret
    exact ⟨rInt (by simp [h]), rfl⟩
theorem max2 (a b : Int) (w : World) :
    Calls Try.prog 14 #[.int .u32 a, .int .u32 b] w fun e w' => e = .returned (.int .u32 (mx a b)) ∧ w' = w := by
  unfold mx
  by_cases h : dif a b < 0
  all_goals
    go_enter Try.func14, Try.ntmps14
    go_wp2_with (go_at_call 12; refine (less2 _ _ _).mono ?_; rintro e w' ⟨rfl, rfl⟩)
    go_ret
    exact ⟨rInt (by simp [h]), rfl⟩
def inB (a b n : Int) : Bool := decide ((a - b) % 4294967296 < n)
theorem in1 (a b n : Int) (w : World) :
    Calls Try.prog 16 #[.int .u32 a, .int .u32 b, .int .i64 n] w fun e w' => e = .returned (.bool (inB a b n)) ∧ w' = w := by
  unfold inB
  have h64 : wrap64 ((a - b) % 4294967296) = (a - b) % 4294967296 := wrap64_in _ (by omega)
  by_cases h : 4294967296 < n
  · go_enter Try.func16, Try.ntmps16
    go_wp2
    go_ret
    exact ⟨rBool (by simp; omega), rfl⟩
  · go_enter Try.func16, Try.ntmps16
    go_wp2
    go_ret
    exact ⟨rBool (by simp), rfl⟩
theorem in2 (a b n : Int) (w : World) :
    Calls Try.prog 17 #[.int .u32 a, .int .u32 b, .int .i64 n] w fun e w' => e = .returned (.bool (inB a b n)) ∧ w' = w := by
  unfold inB
  have h64 : wrap64 ((a - b) % 4294967296) = (a - b) % 4294967296 := wrap64_in _ (by omega)
  by_cases h : 0 < n
  · go_enter Try.func17, Try.ntmps17
    go_wp2
    go_ret
    exact ⟨rBool (by simp), rfl⟩
  · go_enter Try.func17, Try.ntmps17
    go_wp2
    go_ret
    exact ⟨rBool (by simp; omega), rfl⟩
theorem known (w : World) :
    Calls Try.prog 15 #[] w fun e w' => e = .returned (.bool true) ∧ w' = w := by
  have h1 : dif 0 4294967295 = 1 := by decide
  have h2 : dif 4294967295 0 = -1 := by decide
  have h3 : inB 1 4294967295 3 = true := by decide
  go_enter Try.func15, Try.ntmps15
  go_wp2_with (first | (go_at_call 9; refine (diff1 _ _ _).mono ?_; rintro e w' ⟨rfl, rfl⟩) | (go_at_call 11; refine (less1 _ _ _).mono ?_; rintro e w' ⟨rfl, rfl⟩) | (go_at_call 16; refine (in1 _ _ _ _).mono ?_; rintro e w' ⟨rfl, rfl⟩))
  go_ret
  exact ⟨rfl, rfl⟩
def fitB (p l q m : Int) : Bool :=
  if l ≤ 0 then (if m ≤ 0 then p == q else inB p q m)
  else if m ≤ 0 then false else inB p q m || inB ((p + (l - 1)) % 4294967296) q m
theorem fits1 (p l q m : Int) (w : World) (hl' : l ≤ 9223372036854775807) :
    Calls Try.prog 18 #[.int .u32 p, .int .i64 l, .int .u32 q, .int .i64 m] w fun e w' => e = .returned (.bool (fitB p l q m)) ∧ w' = w := by
  unfold fitB
  rcases Int.lt_trichotomy l 0 with hl | hl | hl <;> rcases Int.lt_trichotomy m 0 with hm | hm | hm
  all_goals (try subst hl); (try subst hm)
  all_goals
    go_enter Try.func18, Try.ntmps18
    go_wp2_with (first | (go_at_call 16; refine (in1 _ _ _ _).mono ?_; rintro e w' ⟨rfl, rfl⟩))
  all_goals
    go_ret
    refine ⟨rBool ?_, rfl⟩
    first | rfl | grind
theorem fits2 (p l q m : Int) (w : World) (hl' : l ≤ 9223372036854775807) :
    Calls Try.prog 19 #[.int .u32 p, .int .i64 l, .int .u32 q, .int .i64 m] w fun e w' => e = .returned (.bool (fitB p l q m)) ∧ w' = w := by
  unfold fitB
  by_cases hl : l ≤ 0 <;> by_cases hm : m ≤ 0
  all_goals
    go_enter Try.func19, Try.ntmps19
    go_wp2_with (first | (go_at_call 17; refine (in2 _ _ _ _).mono ?_; rintro e w' ⟨rfl, rfl⟩))
  all_goals
    go_ret
    refine ⟨rBool ?_, rfl⟩
    first | rfl | grind
def trM (p n q m : Int) : Int := if n < 1 then 0 else if m < 1 then 0 else
  if min (min n 2147483647) (min m 2147483647 - dif p q) - max (-(dif p q)) 0 < 1 then 0 else min (min n 2147483647) (min m 2147483647 - dif p q) - max (-(dif p q)) 0
def trF (p n q m : Int) : Int := if trM p n q m = 0 then 0 else max (-(dif p q)) 0
theorem rTwo {k l : IntKind} {a b c d : Int} (h : a = c) (h' : b = d) : Ending.returned (.tuple #[.int k a, .int l b]) = .returned (.tuple #[.int k c, .int l d]) := by rw [h, h']
set_option maxHeartbeats 4000000 in
theorem trim1a (p n q m : Int) (w : World) (hn : n < 1 ∨ m < 1) :
    Calls Try.prog 20 #[.int .u32 p, .int .i64 n, .int .u32 q, .int .i64 m] w fun e w' => e = .returned (.tuple #[.int .i64 (trF p n q m), .int .i64 (trM p n q m)]) ∧ w' = w := by
  have hd := dif_bd p q
  have h0 : trM p n q m = 0 := by unfold trM; rcases hn with h | h <;> simp [h]
  have h1 : trF p n q m = 0 := by unfold trF; simp [h0]
  rw [h0, h1]
  rcases hn with h | h
  all_goals
    go_enter Try.func20, Try.ntmps20
    go_wp2_with (first | (go_at_call 9; refine (diff1 _ _ _).mono ?_; rintro e w' ⟨rfl, rfl⟩))
  all_goals
    go_ret2
    refine ⟨rTwo (by first | rfl | omega) (by first | rfl | omega), rfl⟩
end Go.Proofs.Ytemjoiionpomoaa
