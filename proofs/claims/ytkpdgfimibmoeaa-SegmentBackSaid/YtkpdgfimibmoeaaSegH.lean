/-
  Chapter 14 (segment): Length and Has, by a walk of their texts. Conditions: none but those typed.
-/
import Derived.Test.YtkpdgfimibmoeaaRef14
namespace Go.Proofs.Ytkpdgfimibmoeaa.seg
set_option linter.unusedVariables false
set_option linter.unusedSimpArgs false
open Go.ChangeShapes Go.WideShapes Go.ChangeAt Go.RowKit Go.IntWalk Go.Lib
def hs (fl b : Int) : Bool := bits .and .i64 fl b != 0
def sl (n : Nat) (fl : Int) : Int := (n : Int) + (if hs fl 2 then 1 else 0) + (if hs fl 1 then 1 else 0)
set_option maxHeartbeats 1000000 in
theorem has1 (w : World) (fr to sq ac : Int) (fp tp fl wi ms sc b : Int) (A : Option Addr) (n c : Nat) :
    Calls Try.prog 43 #[.agg #[.int .u32 fr, .int .i64 fp, .int .u32 to, .int .i64 tp, .int .u32 sq, .int .u32 ac, .int .i64 fl, .int .i64 wi, .int .i64 ms, .int .i64 sc, .slice A n c], .int .i64 b] w fun x w' => x = .returned (.bool (hs fl b)) ∧ Only [] w w' := by
  have QB : Hid (Only [] w (w.alloc (.cells #[.int .u32 fr, .int .i64 fp, .int .u32 to, .int .i64 tp, .int .u32 sq, .int .u32 ac, .int .i64 fl, .int .i64 wi, .int .i64 ms, .int .i64 sc, .slice A n c] 26))) := hid ((Only.refl [] w).alloc _)
  go_enter Try.func43, Try.ntmps43
  go_wp2
  go_ret
  exact ⟨rfl, QB.out⟩
set_option maxHeartbeats 2000000 in
theorem lenP (w : World) (fr to sq ac : Int) (fp tp fl wi ms sc : Int) (A : Option Addr) (n c : Nat) (hn : n ≤ 1000000) (b1 b2 : Bool) (e2 : hs fl 2 = b2) (e1 : hs fl 1 = b1) :
    Calls Try.prog 23 #[.agg #[.int .u32 fr, .int .i64 fp, .int .u32 to, .int .i64 tp, .int .u32 sq, .int .u32 ac, .int .i64 fl, .int .i64 wi, .int .i64 ms, .int .i64 sc, .slice A n c]] w fun x w' => x = .returned (.int .i64 ((n : Int) + (if b2 then 1 else 0) + (if b1 then 1 else 0))) ∧ Only [] w w' := by
  have QB : Hid (Only [] w (w.alloc (.cells #[.int .u32 fr, .int .i64 fp, .int .u32 to, .int .i64 tp, .int .u32 sq, .int .u32 ac, .int .i64 fl, .int .i64 wi, .int .i64 ms, .int .i64 sc, .slice A n c] 26))) := hid ((Only.refl [] w).alloc _)
  have h2 : (bits .and .i64 fl 2 != 0) = b2 := e2
  have h1 : (bits .and .i64 fl 1 != 0) = b1 := e1
  clear e1 e2
  have s1 : IntKind.i64.wrap ((n : Int) + 1) = (n : Int) + 1 := i64_in _ (by omega)
  have s2 : IntKind.i64.wrap ((n : Int) + 1 + 1) = (n : Int) + 1 + 1 := i64_in _ (by omega)
  cases b2 <;> cases b1
  · go_enter Try.func23, Try.ntmps23
    go_wp2
    go_ret
    exact ⟨rInt (by simp [s1, s2]), QB.out⟩
  · go_enter Try.func23, Try.ntmps23
    go_wp2
    go_ret
    exact ⟨rInt (by simp [s1, s2]), QB.out⟩
  · go_enter Try.func23, Try.ntmps23
    go_wp2
    go_ret
    exact ⟨rInt (by simp [s1, s2]), QB.out⟩
  · go_enter Try.func23, Try.ntmps23
    go_wp2
    go_ret
    exact ⟨rInt (by simp [s1, s2]), QB.out⟩

set_option maxHeartbeats 2000000 in
theorem lenQ (w : World) (fr to sq ac : Int) (fp tp fl wi ms sc : Int) (A : Option Addr) (n c : Nat) (hn : n ≤ 1000000) (b1 b2 : Bool) (e2 : hs fl 2 = b2) (e1 : hs fl 1 = b1) :
    Calls Try.prog 24 #[.agg #[.int .u32 fr, .int .i64 fp, .int .u32 to, .int .i64 tp, .int .u32 sq, .int .u32 ac, .int .i64 fl, .int .i64 wi, .int .i64 ms, .int .i64 sc, .slice A n c]] w fun x w' => x = .returned (.int .i64 ((n : Int) + (if b2 then 1 else 0) + (if b1 then 1 else 0))) ∧ Only [] w w' := by
  have OB : Hid (Ob (w.alloc (.cells #[.int .u32 fr, .int .i64 fp, .int .u32 to, .int .i64 tp, .int .u32 sq, .int .u32 ac, .int .i64 fl, .int .i64 wi, .int .i64 ms, .int .i64 sc, .slice A n c] 26)) w.heap.size 26 #[.int .u32 fr, .int .i64 fp, .int .u32 to, .int .i64 tp, .int .u32 sq, .int .u32 ac, .int .i64 fl, .int .i64 wi, .int .i64 ms, .int .i64 sc, .slice A n c]) := hid (Ob.new _ _ _)
  have QB : Hid (Only [] w (w.alloc (.cells #[.int .u32 fr, .int .i64 fp, .int .u32 to, .int .i64 tp, .int .u32 sq, .int .u32 ac, .int .i64 fl, .int .i64 wi, .int .i64 ms, .int .i64 sc, .slice A n c] 26))) := hid ((Only.refl [] w).alloc _)
  have h2 : (bits .and .i64 fl 2 != 0) = b2 := e2
  have h1 : (bits .and .i64 fl 1 != 0) = b1 := e1
  clear e1 e2
  have s1 : IntKind.i64.wrap ((n : Int) + 1) = (n : Int) + 1 := i64_in _ (by omega)
  have s2 : IntKind.i64.wrap ((n : Int) + 1 + 1) = (n : Int) + 1 + 1 := i64_in _ (by omega)
  cases b2 <;> cases b1
  · go_enter Try.func24, Try.ntmps24
    go_wp2_with fail
    refine (has1 _ fr to sq ac fp tp fl wi ms sc 2 A n c).mono ?_
    rintro x w1 ⟨rfl, o1⟩
    rw [show hs fl 2 = _ from h2]
    have OB := hid (OB.out.only o1 (by simp)); have QB := hid (QB.out.trans o1); clear o1
    have k0 := OB.out.cell 0; have k1 := OB.out.cell 1; have k2 := OB.out.cell 2; have k3 := OB.out.cell 3; have k4 := OB.out.cell 4; have k5 := OB.out.cell 5; have k6 := OB.out.cell 6; have k7 := OB.out.cell 7; have k8 := OB.out.cell 8; have k9 := OB.out.cell 9; have k10 := OB.out.cell 10
    go_wp2_with fail
    refine (has1 _ fr to sq ac fp tp fl wi ms sc 1 A n c).mono ?_
    rintro x w2 ⟨rfl, o1⟩
    rw [show hs fl 1 = _ from h1]
    have OB := hid (OB.out.only o1 (by simp)); have QB := hid (QB.out.trans o1); clear o1
    have k0 := OB.out.cell 0; have k1 := OB.out.cell 1; have k2 := OB.out.cell 2; have k3 := OB.out.cell 3; have k4 := OB.out.cell 4; have k5 := OB.out.cell 5; have k6 := OB.out.cell 6; have k7 := OB.out.cell 7; have k8 := OB.out.cell 8; have k9 := OB.out.cell 9; have k10 := OB.out.cell 10
    go_wp2
    go_ret
    exact ⟨rInt (by simp [s1, s2]), QB.out⟩
  · go_enter Try.func24, Try.ntmps24
    go_wp2_with fail
    refine (has1 _ fr to sq ac fp tp fl wi ms sc 2 A n c).mono ?_
    rintro x w1 ⟨rfl, o1⟩
    rw [show hs fl 2 = _ from h2]
    have OB := hid (OB.out.only o1 (by simp)); have QB := hid (QB.out.trans o1); clear o1
    have k0 := OB.out.cell 0; have k1 := OB.out.cell 1; have k2 := OB.out.cell 2; have k3 := OB.out.cell 3; have k4 := OB.out.cell 4; have k5 := OB.out.cell 5; have k6 := OB.out.cell 6; have k7 := OB.out.cell 7; have k8 := OB.out.cell 8; have k9 := OB.out.cell 9; have k10 := OB.out.cell 10
    go_wp2_with fail
    refine (has1 _ fr to sq ac fp tp fl wi ms sc 1 A n c).mono ?_
    rintro x w2 ⟨rfl, o1⟩
    rw [show hs fl 1 = _ from h1]
    have OB := hid (OB.out.only o1 (by simp)); have QB := hid (QB.out.trans o1); clear o1
    have k0 := OB.out.cell 0; have k1 := OB.out.cell 1; have k2 := OB.out.cell 2; have k3 := OB.out.cell 3; have k4 := OB.out.cell 4; have k5 := OB.out.cell 5; have k6 := OB.out.cell 6; have k7 := OB.out.cell 7; have k8 := OB.out.cell 8; have k9 := OB.out.cell 9; have k10 := OB.out.cell 10
    go_wp2
    go_ret
    exact ⟨rInt (by simp [s1, s2]), QB.out⟩
  · go_enter Try.func24, Try.ntmps24
    go_wp2_with fail
    refine (has1 _ fr to sq ac fp tp fl wi ms sc 2 A n c).mono ?_
    rintro x w1 ⟨rfl, o1⟩
    rw [show hs fl 2 = _ from h2]
    have OB := hid (OB.out.only o1 (by simp)); have QB := hid (QB.out.trans o1); clear o1
    have k0 := OB.out.cell 0; have k1 := OB.out.cell 1; have k2 := OB.out.cell 2; have k3 := OB.out.cell 3; have k4 := OB.out.cell 4; have k5 := OB.out.cell 5; have k6 := OB.out.cell 6; have k7 := OB.out.cell 7; have k8 := OB.out.cell 8; have k9 := OB.out.cell 9; have k10 := OB.out.cell 10
    go_wp2_with fail
    refine (has1 _ fr to sq ac fp tp fl wi ms sc 1 A n c).mono ?_
    rintro x w2 ⟨rfl, o1⟩
    rw [show hs fl 1 = _ from h1]
    have OB := hid (OB.out.only o1 (by simp)); have QB := hid (QB.out.trans o1); clear o1
    have k0 := OB.out.cell 0; have k1 := OB.out.cell 1; have k2 := OB.out.cell 2; have k3 := OB.out.cell 3; have k4 := OB.out.cell 4; have k5 := OB.out.cell 5; have k6 := OB.out.cell 6; have k7 := OB.out.cell 7; have k8 := OB.out.cell 8; have k9 := OB.out.cell 9; have k10 := OB.out.cell 10
    go_wp2
    go_ret
    exact ⟨rInt (by simp [s1, s2]), QB.out⟩
  · go_enter Try.func24, Try.ntmps24
    go_wp2_with fail
    refine (has1 _ fr to sq ac fp tp fl wi ms sc 2 A n c).mono ?_
    rintro x w1 ⟨rfl, o1⟩
    rw [show hs fl 2 = _ from h2]
    have OB := hid (OB.out.only o1 (by simp)); have QB := hid (QB.out.trans o1); clear o1
    have k0 := OB.out.cell 0; have k1 := OB.out.cell 1; have k2 := OB.out.cell 2; have k3 := OB.out.cell 3; have k4 := OB.out.cell 4; have k5 := OB.out.cell 5; have k6 := OB.out.cell 6; have k7 := OB.out.cell 7; have k8 := OB.out.cell 8; have k9 := OB.out.cell 9; have k10 := OB.out.cell 10
    go_wp2_with fail
    refine (has1 _ fr to sq ac fp tp fl wi ms sc 1 A n c).mono ?_
    rintro x w2 ⟨rfl, o1⟩
    rw [show hs fl 1 = _ from h1]
    have OB := hid (OB.out.only o1 (by simp)); have QB := hid (QB.out.trans o1); clear o1
    have k0 := OB.out.cell 0; have k1 := OB.out.cell 1; have k2 := OB.out.cell 2; have k3 := OB.out.cell 3; have k4 := OB.out.cell 4; have k5 := OB.out.cell 5; have k6 := OB.out.cell 6; have k7 := OB.out.cell 7; have k8 := OB.out.cell 8; have k9 := OB.out.cell 9; have k10 := OB.out.cell 10
    go_wp2
    go_ret
    exact ⟨rInt (by simp [s1, s2]), QB.out⟩

theorem len1 (w : World) (fr to sq ac : Int) (fp tp fl wi ms sc : Int) (A : Option Addr) (n c : Nat) (hn : n ≤ 1000000) :
    Calls Try.prog 23 #[.agg #[.int .u32 fr, .int .i64 fp, .int .u32 to, .int .i64 tp, .int .u32 sq, .int .u32 ac, .int .i64 fl, .int .i64 wi, .int .i64 ms, .int .i64 sc, .slice A n c]] w fun x w' => x = .returned (.int .i64 (sl n fl)) ∧ Only [] w w' :=
  lenP w fr to sq ac fp tp fl wi ms sc A n c hn _ _ rfl rfl
theorem lenR (w : World) (fr to sq ac : Int) (fp tp fl wi ms sc : Int) (A : Option Addr) (n c : Nat) (hn : n ≤ 1000000) :
    Calls Try.prog 24 #[.agg #[.int .u32 fr, .int .i64 fp, .int .u32 to, .int .i64 tp, .int .u32 sq, .int .u32 ac, .int .i64 fl, .int .i64 wi, .int .i64 ms, .int .i64 sc, .slice A n c]] w fun x w' => x = .returned (.int .i64 (sl n fl)) ∧ Only [] w w' :=
  lenQ w fr to sq ac fp tp fl wi ms sc A n c hn _ _ rfl rfl
end Go.Proofs.Ytkpdgfimibmoeaa.seg
