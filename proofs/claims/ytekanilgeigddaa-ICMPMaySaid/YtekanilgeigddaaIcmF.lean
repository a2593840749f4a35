/-
  Chapter 9 (icmp): whom an error may be told, the law by a walk of its text. Conditions: none but those typed.
-/
import Derived.Test.YtekanilgeigddaaIcmE
namespace Go.Proofs.Ytekanilgeigddaa.icm
set_option linter.unusedVariables false
set_option linter.unusedSimpArgs false
open Go.ChangeShapes Go.WideShapes Go.ChangeAt Go.RowKit Go.IntWalk Go.Lib
theorem mayF_only {pr : Int} {n : Nat} {b0 off to fr : Int} (h : mayF pr n b0 off to fr = true) : off ≤ 0 ∧ to < 3758096384 ∧ fr ≠ 0 := by
  unfold mayF at h
  have := of_decide_eq_true h
  omega
set_option maxHeartbeats 1000000 in
theorem mayLaw (w : World) (a0 a1 a4 a5 a6 a7 a8 : Int) (b2 b3 : Bool) (v9 : Value) (A : Option Addr) (n c : Nat) (l : List Int) (hl : Rd .u8 w A n l) (h7 : 0 ≤ a7 ∧ a7 ≤ 4294967295) :
    Calls Try.prog 6 #[.agg #[.int .i64 a0, .int .i64 a1, .bool b2, .bool b3, .int .i64 a4, .int .i64 a5, .int .i64 a6, .int .u32 a7, .int .u32 a8, v9, .slice A n c]] w fun e w' => e = .returned (.bool true) ∧ Only [] w w' := by
  have HR := hid hl; clear hl
  have H7 := hid h7; clear h7
  by_cases hn : 4000 < n
  · go_enter Try.func6, Try.ntmps6
    go_wp2
    go_ret
    exact ⟨rfl, (Only.refl [] w).alloc _⟩
  · have OB : Hid (Ob (w.alloc (.cells #[.int .i64 a0, .int .i64 a1, .bool b2, .bool b3, .int .i64 a4, .int .i64 a5, .int .i64 a6, .int .u32 a7, .int .u32 a8, v9, .slice A n c] 46)) w.heap.size 46 #[.int .i64 a0, .int .i64 a1, .bool b2, .bool b3, .int .i64 a4, .int .i64 a5, .int .i64 a6, .int .u32 a7, .int .u32 a8, v9, .slice A n c]) := hid (Ob.new _ _ _)
    have QB : Hid (Only [] w (w.alloc (.cells #[.int .i64 a0, .int .i64 a1, .bool b2, .bool b3, .int .i64 a4, .int .i64 a5, .int .i64 a6, .int .u32 a7, .int .u32 a8, v9, .slice A n c] 46))) := hid ((Only.refl [] w).alloc _)
    generalize hM : mayF a6 n (l.getD 0 0) a4 a8 a7 = M
    have HM := hid hM; clear hM
    cases M
    · go_enter Try.func6, Try.ntmps6
      go_wp2_with fail
      refine (may1 _ a0 a1 a4 a5 a6 a7 a8 b2 b3 v9 A n c l (HR.out.alloc _) H7.out).mono ?_
      rintro e w1 ⟨rfl, o1⟩
      rw [HM.out]
      have O1 := hid (OB.out.only o1 (by simp)); have Q1 := hid (QB.out.trans o1); clear o1
      have k0 := O1.out.cell 0
      have k1 := O1.out.cell 1
      have k2 := O1.out.cell 2
      have k3 := O1.out.cell 3
      have k4 := O1.out.cell 4
      have k5 := O1.out.cell 5
      have k6 := O1.out.cell 6
      have k7 := O1.out.cell 7
      have k8 := O1.out.cell 8
      have k9 := O1.out.cell 9
      have k10 := O1.out.cell 10
      go_wp2_with fail
      clear k0 k1 k2 k3 k4 k5 k6 k7 k8 k9 k10
      refine (may2 _ a0 a1 a4 a5 a6 a7 a8 b2 b3 v9 A n c l (HR.out.only_nil Q1.out) H7.out).mono ?_
      rintro e w2 ⟨rfl, o2⟩
      rw [HM.out]
      have Q2 := hid (Q1.out.trans o2); clear o2
      go_wp2_with fail
      refine (known _).mono ?_
      rintro e w3 ⟨rfl, o3⟩
      have Q3 := hid (Q2.out.trans o3); clear o3
      go_wp2
      go_ret
      exact ⟨rfl, Q3.out⟩
    · obtain ⟨m1, m2, m3⟩ := mayF_only HM.out
      have d1 : decide (0 < a4) = false := by simpa using m1
      have d2 : decide (3758096384 ≤ a8) = false := by simp; omega
      have d3 : (a7 == 0) = false := by simpa using m3
      go_enter Try.func6, Try.ntmps6
      go_wp2_with fail
      refine (may1 _ a0 a1 a4 a5 a6 a7 a8 b2 b3 v9 A n c l (HR.out.alloc _) H7.out).mono ?_
      rintro e w1 ⟨rfl, o1⟩
      rw [HM.out]
      have O1 := hid (OB.out.only o1 (by simp)); have Q1 := hid (QB.out.trans o1); clear o1
      have k0 := O1.out.cell 0
      have k1 := O1.out.cell 1
      have k2 := O1.out.cell 2
      have k3 := O1.out.cell 3
      have k4 := O1.out.cell 4
      have k5 := O1.out.cell 5
      have k6 := O1.out.cell 6
      have k7 := O1.out.cell 7
      have k8 := O1.out.cell 8
      have k9 := O1.out.cell 9
      have k10 := O1.out.cell 10
      go_wp2_with fail
      clear k0 k1 k2 k3 k4 k5 k6 k7 k8 k9 k10
      refine (may2 _ a0 a1 a4 a5 a6 a7 a8 b2 b3 v9 A n c l (HR.out.only_nil Q1.out) H7.out).mono ?_
      rintro e w2 ⟨rfl, o2⟩
      rw [HM.out]
      have Q2 := hid (Q1.out.trans o2); clear o2
      go_wp2_with fail
      refine (known _).mono ?_
      rintro e w3 ⟨rfl, o3⟩
      have Q3 := hid (Q2.out.trans o3); clear o3
      go_wp2
      go_ret
      exact ⟨rfl, Q3.out⟩
end Go.Proofs.Ytekanilgeigddaa.icm
