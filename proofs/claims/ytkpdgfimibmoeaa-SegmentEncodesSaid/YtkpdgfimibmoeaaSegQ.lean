/-
  Chapter 14 (segment): the document's own Encode, its errors, and the law on what a segment is written as, by a walk of its text. Conditions: none but those typed.
-/
import Derived.Test.YtkpdgfimibmoeaaSegO
import Derived.Test.YtkpdgfimibmoeaaSegO01
import Derived.Test.YtkpdgfimibmoeaaSegO10
import Derived.Test.YtkpdgfimibmoeaaSegO00
import Derived.Test.YtkpdgfimibmoeaaHlp14
namespace Go.Proofs.Ytkpdgfimibmoeaa.seg
set_option linter.unusedVariables false
set_option linter.unusedSimpArgs false
open Go.ChangeShapes Go.WideShapes Go.ChangeAt Go.RowKit Go.IntWalk Go.Lib
set_option maxRecDepth 100000 in
set_option maxHeartbeats 8000000 in
theorem rbad0 (w : World) (fr to sq ac : Int) (fp tp fl wi ms sc : Int) (A : Option Addr) (n c : Nat)  (h : (fp < 0)) :
    Calls Try.prog 12 #[.agg #[.int .u32 fr, .int .i64 fp, .int .u32 to, .int .i64 tp, .int .u32 sq, .int .u32 ac, .int .i64 fl, .int .i64 wi, .int .i64 ms, .int .i64 sc, .slice A n c]] w fun x w' => x = .returned (.tuple #[.slice none 0 0, .int .i64 1]) ∧ Only [] w w' := by
  have OB : Hid (Ob (w.alloc (.cells #[.int .u32 fr, .int .i64 fp, .int .u32 to, .int .i64 tp, .int .u32 sq, .int .u32 ac, .int .i64 fl, .int .i64 wi, .int .i64 ms, .int .i64 sc, .slice A n c] 26)) w.heap.size 26 #[.int .u32 fr, .int .i64 fp, .int .u32 to, .int .i64 tp, .int .u32 sq, .int .u32 ac, .int .i64 fl, .int .i64 wi, .int .i64 ms, .int .i64 sc, .slice A n c]) := hid (Ob.new _ _ _)
  have QB : Hid (Only [] w (w.alloc (.cells #[.int .u32 fr, .int .i64 fp, .int .u32 to, .int .i64 tp, .int .u32 sq, .int .u32 ac, .int .i64 fl, .int .i64 wi, .int .i64 ms, .int .i64 sc, .slice A n c] 26))) := hid ((Only.refl [] w).alloc _)
  have dd : decide (fp < 0) = true := by simpa using h
  go_enter Try.func12, Try.ntmps12
  go_wp2
  go_ret2
  exact ⟨rfl, QB.out⟩
set_option maxRecDepth 100000 in
set_option maxHeartbeats 8000000 in
theorem rbad1 (w : World) (fr to sq ac : Int) (fp tp fl wi ms sc : Int) (A : Option Addr) (n c : Nat) (p0 : ¬ (fp < 0)) (h : (65535 < fp)) :
    Calls Try.prog 12 #[.agg #[.int .u32 fr, .int .i64 fp, .int .u32 to, .int .i64 tp, .int .u32 sq, .int .u32 ac, .int .i64 fl, .int .i64 wi, .int .i64 ms, .int .i64 sc, .slice A n c]] w fun x w' => x = .returned (.tuple #[.slice none 0 0, .int .i64 1]) ∧ Only [] w w' := by
  have OB : Hid (Ob (w.alloc (.cells #[.int .u32 fr, .int .i64 fp, .int .u32 to, .int .i64 tp, .int .u32 sq, .int .u32 ac, .int .i64 fl, .int .i64 wi, .int .i64 ms, .int .i64 sc, .slice A n c] 26)) w.heap.size 26 #[.int .u32 fr, .int .i64 fp, .int .u32 to, .int .i64 tp, .int .u32 sq, .int .u32 ac, .int .i64 fl, .int .i64 wi, .int .i64 ms, .int .i64 sc, .slice A n c]) := hid (Ob.new _ _ _)
  have QB : Hid (Only [] w (w.alloc (.cells #[.int .u32 fr, .int .i64 fp, .int .u32 to, .int .i64 tp, .int .u32 sq, .int .u32 ac, .int .i64 fl, .int .i64 wi, .int .i64 ms, .int .i64 sc, .slice A n c] 26))) := hid ((Only.refl [] w).alloc _)
  have d0 : decide ((fp < 0)) = false := by simpa using p0
  have dd : decide (65535 < fp) = true := by simpa using h
  go_enter Try.func12, Try.ntmps12
  go_wp2
  go_ret2
  exact ⟨rfl, QB.out⟩
set_option maxRecDepth 100000 in
set_option maxHeartbeats 8000000 in
theorem rbad2 (w : World) (fr to sq ac : Int) (fp tp fl wi ms sc : Int) (A : Option Addr) (n c : Nat) (p0 : ¬ (fp < 0)) (p1 : ¬ (65535 < fp)) (h : (tp < 0)) :
    Calls Try.prog 12 #[.agg #[.int .u32 fr, .int .i64 fp, .int .u32 to, .int .i64 tp, .int .u32 sq, .int .u32 ac, .int .i64 fl, .int .i64 wi, .int .i64 ms, .int .i64 sc, .slice A n c]] w fun x w' => x = .returned (.tuple #[.slice none 0 0, .int .i64 1]) ∧ Only [] w w' := by
  have OB : Hid (Ob (w.alloc (.cells #[.int .u32 fr, .int .i64 fp, .int .u32 to, .int .i64 tp, .int .u32 sq, .int .u32 ac, .int .i64 fl, .int .i64 wi, .int .i64 ms, .int .i64 sc, .slice A n c] 26)) w.heap.size 26 #[.int .u32 fr, .int .i64 fp, .int .u32 to, .int .i64 tp, .int .u32 sq, .int .u32 ac, .int .i64 fl, .int .i64 wi, .int .i64 ms, .int .i64 sc, .slice A n c]) := hid (Ob.new _ _ _)
  have QB : Hid (Only [] w (w.alloc (.cells #[.int .u32 fr, .int .i64 fp, .int .u32 to, .int .i64 tp, .int .u32 sq, .int .u32 ac, .int .i64 fl, .int .i64 wi, .int .i64 ms, .int .i64 sc, .slice A n c] 26))) := hid ((Only.refl [] w).alloc _)
  have d0 : decide ((fp < 0)) = false := by simpa using p0
  have d1 : decide ((65535 < fp)) = false := by simpa using p1
  have dd : decide (tp < 0) = true := by simpa using h
  go_enter Try.func12, Try.ntmps12
  go_wp2
  go_ret2
  exact ⟨rfl, QB.out⟩
set_option maxRecDepth 100000 in
set_option maxHeartbeats 8000000 in
theorem rbad3 (w : World) (fr to sq ac : Int) (fp tp fl wi ms sc : Int) (A : Option Addr) (n c : Nat) (p0 : ¬ (fp < 0)) (p1 : ¬ (65535 < fp)) (p2 : ¬ (tp < 0)) (h : (65535 < tp)) :
    Calls Try.prog 12 #[.agg #[.int .u32 fr, .int .i64 fp, .int .u32 to, .int .i64 tp, .int .u32 sq, .int .u32 ac, .int .i64 fl, .int .i64 wi, .int .i64 ms, .int .i64 sc, .slice A n c]] w fun x w' => x = .returned (.tuple #[.slice none 0 0, .int .i64 1]) ∧ Only [] w w' := by
  have OB : Hid (Ob (w.alloc (.cells #[.int .u32 fr, .int .i64 fp, .int .u32 to, .int .i64 tp, .int .u32 sq, .int .u32 ac, .int .i64 fl, .int .i64 wi, .int .i64 ms, .int .i64 sc, .slice A n c] 26)) w.heap.size 26 #[.int .u32 fr, .int .i64 fp, .int .u32 to, .int .i64 tp, .int .u32 sq, .int .u32 ac, .int .i64 fl, .int .i64 wi, .int .i64 ms, .int .i64 sc, .slice A n c]) := hid (Ob.new _ _ _)
  have QB : Hid (Only [] w (w.alloc (.cells #[.int .u32 fr, .int .i64 fp, .int .u32 to, .int .i64 tp, .int .u32 sq, .int .u32 ac, .int .i64 fl, .int .i64 wi, .int .i64 ms, .int .i64 sc, .slice A n c] 26))) := hid ((Only.refl [] w).alloc _)
  have d0 : decide ((fp < 0)) = false := by simpa using p0
  have d1 : decide ((65535 < fp)) = false := by simpa using p1
  have d2 : decide ((tp < 0)) = false := by simpa using p2
  have dd : decide (65535 < tp) = true := by simpa using h
  go_enter Try.func12, Try.ntmps12
  go_wp2
  go_ret2
  exact ⟨rfl, QB.out⟩
set_option maxRecDepth 100000 in
set_option maxHeartbeats 8000000 in
theorem rbad4 (w : World) (fr to sq ac : Int) (fp tp fl wi ms sc : Int) (A : Option Addr) (n c : Nat) (p0 : ¬ (fp < 0)) (p1 : ¬ (65535 < fp)) (p2 : ¬ (tp < 0)) (p3 : ¬ (65535 < tp)) (h : (wi < 0)) :
    Calls Try.prog 12 #[.agg #[.int .u32 fr, .int .i64 fp, .int .u32 to, .int .i64 tp, .int .u32 sq, .int .u32 ac, .int .i64 fl, .int .i64 wi, .int .i64 ms, .int .i64 sc, .slice A n c]] w fun x w' => x = .returned (.tuple #[.slice none 0 0, .int .i64 1]) ∧ Only [] w w' := by
  have OB : Hid (Ob (w.alloc (.cells #[.int .u32 fr, .int .i64 fp, .int .u32 to, .int .i64 tp, .int .u32 sq, .int .u32 ac, .int .i64 fl, .int .i64 wi, .int .i64 ms, .int .i64 sc, .slice A n c] 26)) w.heap.size 26 #[.int .u32 fr, .int .i64 fp, .int .u32 to, .int .i64 tp, .int .u32 sq, .int .u32 ac, .int .i64 fl, .int .i64 wi, .int .i64 ms, .int .i64 sc, .slice A n c]) := hid (Ob.new _ _ _)
  have QB : Hid (Only [] w (w.alloc (.cells #[.int .u32 fr, .int .i64 fp, .int .u32 to, .int .i64 tp, .int .u32 sq, .int .u32 ac, .int .i64 fl, .int .i64 wi, .int .i64 ms, .int .i64 sc, .slice A n c] 26))) := hid ((Only.refl [] w).alloc _)
  have d0 : decide ((fp < 0)) = false := by simpa using p0
  have d1 : decide ((65535 < fp)) = false := by simpa using p1
  have d2 : decide ((tp < 0)) = false := by simpa using p2
  have d3 : decide ((65535 < tp)) = false := by simpa using p3
  have dd : decide (wi < 0) = true := by simpa using h
  go_enter Try.func12, Try.ntmps12
  go_wp2
  go_ret2
  exact ⟨rfl, QB.out⟩
set_option maxRecDepth 100000 in
set_option maxHeartbeats 8000000 in
theorem rbad5 (w : World) (fr to sq ac : Int) (fp tp fl wi ms sc : Int) (A : Option Addr) (n c : Nat) (p0 : ¬ (fp < 0)) (p1 : ¬ (65535 < fp)) (p2 : ¬ (tp < 0)) (p3 : ¬ (65535 < tp)) (p4 : ¬ (wi < 0)) (h : (65535 < wi)) :
    Calls Try.prog 12 #[.agg #[.int .u32 fr, .int .i64 fp, .int .u32 to, .int .i64 tp, .int .u32 sq, .int .u32 ac, .int .i64 fl, .int .i64 wi, .int .i64 ms, .int .i64 sc, .slice A n c]] w fun x w' => x = .returned (.tuple #[.slice none 0 0, .int .i64 1]) ∧ Only [] w w' := by
  have OB : Hid (Ob (w.alloc (.cells #[.int .u32 fr, .int .i64 fp, .int .u32 to, .int .i64 tp, .int .u32 sq, .int .u32 ac, .int .i64 fl, .int .i64 wi, .int .i64 ms, .int .i64 sc, .slice A n c] 26)) w.heap.size 26 #[.int .u32 fr, .int .i64 fp, .int .u32 to, .int .i64 tp, .int .u32 sq, .int .u32 ac, .int .i64 fl, .int .i64 wi, .int .i64 ms, .int .i64 sc, .slice A n c]) := hid (Ob.new _ _ _)
  have QB : Hid (Only [] w (w.alloc (.cells #[.int .u32 fr, .int .i64 fp, .int .u32 to, .int .i64 tp, .int .u32 sq, .int .u32 ac, .int .i64 fl, .int .i64 wi, .int .i64 ms, .int .i64 sc, .slice A n c] 26))) := hid ((Only.refl [] w).alloc _)
  have d0 : decide ((fp < 0)) = false := by simpa using p0
  have d1 : decide ((65535 < fp)) = false := by simpa using p1
  have d2 : decide ((tp < 0)) = false := by simpa using p2
  have d3 : decide ((65535 < tp)) = false := by simpa using p3
  have d4 : decide ((wi < 0)) = false := by simpa using p4
  have dd : decide (65535 < wi) = true := by simpa using h
  go_enter Try.func12, Try.ntmps12
  go_wp2
  go_ret2
  exact ⟨rfl, QB.out⟩
set_option maxRecDepth 100000 in
set_option maxHeartbeats 8000000 in
theorem rbad6 (w : World) (fr to sq ac : Int) (fp tp fl wi ms sc : Int) (A : Option Addr) (n c : Nat) (p0 : ¬ (fp < 0)) (p1 : ¬ (65535 < fp)) (p2 : ¬ (tp < 0)) (p3 : ¬ (65535 < tp)) (p4 : ¬ (wi < 0)) (p5 : ¬ (65535 < wi)) (h : (fl < 0)) :
    Calls Try.prog 12 #[.agg #[.int .u32 fr, .int .i64 fp, .int .u32 to, .int .i64 tp, .int .u32 sq, .int .u32 ac, .int .i64 fl, .int .i64 wi, .int .i64 ms, .int .i64 sc, .slice A n c]] w fun x w' => x = .returned (.tuple #[.slice none 0 0, .int .i64 1]) ∧ Only [] w w' := by
  have OB : Hid (Ob (w.alloc (.cells #[.int .u32 fr, .int .i64 fp, .int .u32 to, .int .i64 tp, .int .u32 sq, .int .u32 ac, .int .i64 fl, .int .i64 wi, .int .i64 ms, .int .i64 sc, .slice A n c] 26)) w.heap.size 26 #[.int .u32 fr, .int .i64 fp, .int .u32 to, .int .i64 tp, .int .u32 sq, .int .u32 ac, .int .i64 fl, .int .i64 wi, .int .i64 ms, .int .i64 sc, .slice A n c]) := hid (Ob.new _ _ _)
  have QB : Hid (Only [] w (w.alloc (.cells #[.int .u32 fr, .int .i64 fp, .int .u32 to, .int .i64 tp, .int .u32 sq, .int .u32 ac, .int .i64 fl, .int .i64 wi, .int .i64 ms, .int .i64 sc, .slice A n c] 26))) := hid ((Only.refl [] w).alloc _)
  have d0 : decide ((fp < 0)) = false := by simpa using p0
  have d1 : decide ((65535 < fp)) = false := by simpa using p1
  have d2 : decide ((tp < 0)) = false := by simpa using p2
  have d3 : decide ((65535 < tp)) = false := by simpa using p3
  have d4 : decide ((wi < 0)) = false := by simpa using p4
  have d5 : decide ((65535 < wi)) = false := by simpa using p5
  have dd : decide (fl < 0) = true := by simpa using h
  go_enter Try.func12, Try.ntmps12
  go_wp2
  go_ret2
  exact ⟨rfl, QB.out⟩
set_option maxRecDepth 100000 in
set_option maxHeartbeats 8000000 in
theorem rbad7 (w : World) (fr to sq ac : Int) (fp tp fl wi ms sc : Int) (A : Option Addr) (n c : Nat) (p0 : ¬ (fp < 0)) (p1 : ¬ (65535 < fp)) (p2 : ¬ (tp < 0)) (p3 : ¬ (65535 < tp)) (p4 : ¬ (wi < 0)) (p5 : ¬ (65535 < wi)) (p6 : ¬ (fl < 0)) (h : (63 < fl)) :
    Calls Try.prog 12 #[.agg #[.int .u32 fr, .int .i64 fp, .int .u32 to, .int .i64 tp, .int .u32 sq, .int .u32 ac, .int .i64 fl, .int .i64 wi, .int .i64 ms, .int .i64 sc, .slice A n c]] w fun x w' => x = .returned (.tuple #[.slice none 0 0, .int .i64 1]) ∧ Only [] w w' := by
  have OB : Hid (Ob (w.alloc (.cells #[.int .u32 fr, .int .i64 fp, .int .u32 to, .int .i64 tp, .int .u32 sq, .int .u32 ac, .int .i64 fl, .int .i64 wi, .int .i64 ms, .int .i64 sc, .slice A n c] 26)) w.heap.size 26 #[.int .u32 fr, .int .i64 fp, .int .u32 to, .int .i64 tp, .int .u32 sq, .int .u32 ac, .int .i64 fl, .int .i64 wi, .int .i64 ms, .int .i64 sc, .slice A n c]) := hid (Ob.new _ _ _)
  have QB : Hid (Only [] w (w.alloc (.cells #[.int .u32 fr, .int .i64 fp, .int .u32 to, .int .i64 tp, .int .u32 sq, .int .u32 ac, .int .i64 fl, .int .i64 wi, .int .i64 ms, .int .i64 sc, .slice A n c] 26))) := hid ((Only.refl [] w).alloc _)
  have d0 : decide ((fp < 0)) = false := by simpa using p0
  have d1 : decide ((65535 < fp)) = false := by simpa using p1
  have d2 : decide ((tp < 0)) = false := by simpa using p2
  have d3 : decide ((65535 < tp)) = false := by simpa using p3
  have d4 : decide ((wi < 0)) = false := by simpa using p4
  have d5 : decide ((65535 < wi)) = false := by simpa using p5
  have d6 : decide ((fl < 0)) = false := by simpa using p6
  have dd : decide (63 < fl) = true := by simpa using h
  go_enter Try.func12, Try.ntmps12
  go_wp2
  go_ret2
  exact ⟨rfl, QB.out⟩
set_option maxRecDepth 100000 in
set_option maxHeartbeats 8000000 in
theorem rbad8 (w : World) (fr to sq ac : Int) (fp tp fl wi ms sc : Int) (A : Option Addr) (n c : Nat) (p0 : ¬ (fp < 0)) (p1 : ¬ (65535 < fp)) (p2 : ¬ (tp < 0)) (p3 : ¬ (65535 < tp)) (p4 : ¬ (wi < 0)) (p5 : ¬ (65535 < wi)) (p6 : ¬ (fl < 0)) (p7 : ¬ (63 < fl)) (h : (ms < 0)) :
    Calls Try.prog 12 #[.agg #[.int .u32 fr, .int .i64 fp, .int .u32 to, .int .i64 tp, .int .u32 sq, .int .u32 ac, .int .i64 fl, .int .i64 wi, .int .i64 ms, .int .i64 sc, .slice A n c]] w fun x w' => x = .returned (.tuple #[.slice none 0 0, .int .i64 1]) ∧ Only [] w w' := by
  have OB : Hid (Ob (w.alloc (.cells #[.int .u32 fr, .int .i64 fp, .int .u32 to, .int .i64 tp, .int .u32 sq, .int .u32 ac, .int .i64 fl, .int .i64 wi, .int .i64 ms, .int .i64 sc, .slice A n c] 26)) w.heap.size 26 #[.int .u32 fr, .int .i64 fp, .int .u32 to, .int .i64 tp, .int .u32 sq, .int .u32 ac, .int .i64 fl, .int .i64 wi, .int .i64 ms, .int .i64 sc, .slice A n c]) := hid (Ob.new _ _ _)
  have QB : Hid (Only [] w (w.alloc (.cells #[.int .u32 fr, .int .i64 fp, .int .u32 to, .int .i64 tp, .int .u32 sq, .int .u32 ac, .int .i64 fl, .int .i64 wi, .int .i64 ms, .int .i64 sc, .slice A n c] 26))) := hid ((Only.refl [] w).alloc _)
  have d0 : decide ((fp < 0)) = false := by simpa using p0
  have d1 : decide ((65535 < fp)) = false := by simpa using p1
  have d2 : decide ((tp < 0)) = false := by simpa using p2
  have d3 : decide ((65535 < tp)) = false := by simpa using p3
  have d4 : decide ((wi < 0)) = false := by simpa using p4
  have d5 : decide ((65535 < wi)) = false := by simpa using p5
  have d6 : decide ((fl < 0)) = false := by simpa using p6
  have d7 : decide ((63 < fl)) = false := by simpa using p7
  have dd : decide (ms < 0) = true := by simpa using h
  go_enter Try.func12, Try.ntmps12
  go_wp2
  go_ret2
  exact ⟨rfl, QB.out⟩
set_option maxRecDepth 100000 in
set_option maxHeartbeats 8000000 in
theorem rbad9 (w : World) (fr to sq ac : Int) (fp tp fl wi ms sc : Int) (A : Option Addr) (n c : Nat) (p0 : ¬ (fp < 0)) (p1 : ¬ (65535 < fp)) (p2 : ¬ (tp < 0)) (p3 : ¬ (65535 < tp)) (p4 : ¬ (wi < 0)) (p5 : ¬ (65535 < wi)) (p6 : ¬ (fl < 0)) (p7 : ¬ (63 < fl)) (p8 : ¬ (ms < 0)) (h : (65535 < ms)) :
    Calls Try.prog 12 #[.agg #[.int .u32 fr, .int .i64 fp, .int .u32 to, .int .i64 tp, .int .u32 sq, .int .u32 ac, .int .i64 fl, .int .i64 wi, .int .i64 ms, .int .i64 sc, .slice A n c]] w fun x w' => x = .returned (.tuple #[.slice none 0 0, .int .i64 1]) ∧ Only [] w w' := by
  have OB : Hid (Ob (w.alloc (.cells #[.int .u32 fr, .int .i64 fp, .int .u32 to, .int .i64 tp, .int .u32 sq, .int .u32 ac, .int .i64 fl, .int .i64 wi, .int .i64 ms, .int .i64 sc, .slice A n c] 26)) w.heap.size 26 #[.int .u32 fr, .int .i64 fp, .int .u32 to, .int .i64 tp, .int .u32 sq, .int .u32 ac, .int .i64 fl, .int .i64 wi, .int .i64 ms, .int .i64 sc, .slice A n c]) := hid (Ob.new _ _ _)
  have QB : Hid (Only [] w (w.alloc (.cells #[.int .u32 fr, .int .i64 fp, .int .u32 to, .int .i64 tp, .int .u32 sq, .int .u32 ac, .int .i64 fl, .int .i64 wi, .int .i64 ms, .int .i64 sc, .slice A n c] 26))) := hid ((Only.refl [] w).alloc _)
  have d0 : decide ((fp < 0)) = false := by simpa using p0
  have d1 : decide ((65535 < fp)) = false := by simpa using p1
  have d2 : decide ((tp < 0)) = false := by simpa using p2
  have d3 : decide ((65535 < tp)) = false := by simpa using p3
  have d4 : decide ((wi < 0)) = false := by simpa using p4
  have d5 : decide ((65535 < wi)) = false := by simpa using p5
  have d6 : decide ((fl < 0)) = false := by simpa using p6
  have d7 : decide ((63 < fl)) = false := by simpa using p7
  have d8 : decide ((ms < 0)) = false := by simpa using p8
  have dd : decide (65535 < ms) = true := by simpa using h
  go_enter Try.func12, Try.ntmps12
  go_wp2
  go_ret2
  exact ⟨rfl, QB.out⟩
set_option maxRecDepth 100000 in
set_option maxHeartbeats 8000000 in
theorem rbad10 (w : World) (fr to sq ac : Int) (fp tp fl wi ms sc : Int) (A : Option Addr) (n c : Nat) (p0 : ¬ (fp < 0)) (p1 : ¬ (65535 < fp)) (p2 : ¬ (tp < 0)) (p3 : ¬ (65535 < tp)) (p4 : ¬ (wi < 0)) (p5 : ¬ (65535 < wi)) (p6 : ¬ (fl < 0)) (p7 : ¬ (63 < fl)) (p8 : ¬ (ms < 0)) (p9 : ¬ (65535 < ms)) (h : (sc < -1)) :
    Calls Try.prog 12 #[.agg #[.int .u32 fr, .int .i64 fp, .int .u32 to, .int .i64 tp, .int .u32 sq, .int .u32 ac, .int .i64 fl, .int .i64 wi, .int .i64 ms, .int .i64 sc, .slice A n c]] w fun x w' => x = .returned (.tuple #[.slice none 0 0, .int .i64 1]) ∧ Only [] w w' := by
  have OB : Hid (Ob (w.alloc (.cells #[.int .u32 fr, .int .i64 fp, .int .u32 to, .int .i64 tp, .int .u32 sq, .int .u32 ac, .int .i64 fl, .int .i64 wi, .int .i64 ms, .int .i64 sc, .slice A n c] 26)) w.heap.size 26 #[.int .u32 fr, .int .i64 fp, .int .u32 to, .int .i64 tp, .int .u32 sq, .int .u32 ac, .int .i64 fl, .int .i64 wi, .int .i64 ms, .int .i64 sc, .slice A n c]) := hid (Ob.new _ _ _)
  have QB : Hid (Only [] w (w.alloc (.cells #[.int .u32 fr, .int .i64 fp, .int .u32 to, .int .i64 tp, .int .u32 sq, .int .u32 ac, .int .i64 fl, .int .i64 wi, .int .i64 ms, .int .i64 sc, .slice A n c] 26))) := hid ((Only.refl [] w).alloc _)
  have d0 : decide ((fp < 0)) = false := by simpa using p0
  have d1 : decide ((65535 < fp)) = false := by simpa using p1
  have d2 : decide ((tp < 0)) = false := by simpa using p2
  have d3 : decide ((65535 < tp)) = false := by simpa using p3
  have d4 : decide ((wi < 0)) = false := by simpa using p4
  have d5 : decide ((65535 < wi)) = false := by simpa using p5
  have d6 : decide ((fl < 0)) = false := by simpa using p6
  have d7 : decide ((63 < fl)) = false := by simpa using p7
  have d8 : decide ((ms < 0)) = false := by simpa using p8
  have d9 : decide ((65535 < ms)) = false := by simpa using p9
  have dd : decide (sc < -1) = true := by simpa using h
  go_enter Try.func12, Try.ntmps12
  go_wp2
  go_ret2
  exact ⟨rfl, QB.out⟩
set_option maxRecDepth 100000 in
set_option maxHeartbeats 8000000 in
theorem rbad11 (w : World) (fr to sq ac : Int) (fp tp fl wi ms sc : Int) (A : Option Addr) (n c : Nat) (p0 : ¬ (fp < 0)) (p1 : ¬ (65535 < fp)) (p2 : ¬ (tp < 0)) (p3 : ¬ (65535 < tp)) (p4 : ¬ (wi < 0)) (p5 : ¬ (65535 < wi)) (p6 : ¬ (fl < 0)) (p7 : ¬ (63 < fl)) (p8 : ¬ (ms < 0)) (p9 : ¬ (65535 < ms)) (p10 : ¬ (sc < -1)) (h : (14 < sc)) :
    Calls Try.prog 12 #[.agg #[.int .u32 fr, .int .i64 fp, .int .u32 to, .int .i64 tp, .int .u32 sq, .int .u32 ac, .int .i64 fl, .int .i64 wi, .int .i64 ms, .int .i64 sc, .slice A n c]] w fun x w' => x = .returned (.tuple #[.slice none 0 0, .int .i64 1]) ∧ Only [] w w' := by
  have OB : Hid (Ob (w.alloc (.cells #[.int .u32 fr, .int .i64 fp, .int .u32 to, .int .i64 tp, .int .u32 sq, .int .u32 ac, .int .i64 fl, .int .i64 wi, .int .i64 ms, .int .i64 sc, .slice A n c] 26)) w.heap.size 26 #[.int .u32 fr, .int .i64 fp, .int .u32 to, .int .i64 tp, .int .u32 sq, .int .u32 ac, .int .i64 fl, .int .i64 wi, .int .i64 ms, .int .i64 sc, .slice A n c]) := hid (Ob.new _ _ _)
  have QB : Hid (Only [] w (w.alloc (.cells #[.int .u32 fr, .int .i64 fp, .int .u32 to, .int .i64 tp, .int .u32 sq, .int .u32 ac, .int .i64 fl, .int .i64 wi, .int .i64 ms, .int .i64 sc, .slice A n c] 26))) := hid ((Only.refl [] w).alloc _)
  have d0 : decide ((fp < 0)) = false := by simpa using p0
  have d1 : decide ((65535 < fp)) = false := by simpa using p1
  have d2 : decide ((tp < 0)) = false := by simpa using p2
  have d3 : decide ((65535 < tp)) = false := by simpa using p3
  have d4 : decide ((wi < 0)) = false := by simpa using p4
  have d5 : decide ((65535 < wi)) = false := by simpa using p5
  have d6 : decide ((fl < 0)) = false := by simpa using p6
  have d7 : decide ((63 < fl)) = false := by simpa using p7
  have d8 : decide ((ms < 0)) = false := by simpa using p8
  have d9 : decide ((65535 < ms)) = false := by simpa using p9
  have d10 : decide ((sc < -1)) = false := by simpa using p10
  have dd : decide (14 < sc) = true := by simpa using h
  go_enter Try.func12, Try.ntmps12
  go_wp2
  go_ret2
  exact ⟨rfl, QB.out⟩
set_option maxRecDepth 100000 in
set_option maxHeartbeats 8000000 in
theorem rbad (w : World) (fr to sq ac : Int) (fp tp fl wi ms sc : Int) (A : Option Addr) (n c : Nat) (h : ¬ Good fp tp fl wi ms sc) :
    Calls Try.prog 12 #[.agg #[.int .u32 fr, .int .i64 fp, .int .u32 to, .int .i64 tp, .int .u32 sq, .int .u32 ac, .int .i64 fl, .int .i64 wi, .int .i64 ms, .int .i64 sc, .slice A n c]] w fun x w' => x = .returned (.tuple #[.slice none 0 0, .int .i64 1]) ∧ Only [] w w' := by
  unfold Good at h
  by_cases h0 : (fp < 0)
  · exact rbad0 w fr to sq ac fp tp fl wi ms sc A n c  h0
  ·
    by_cases h1 : (65535 < fp)
    · exact rbad1 w fr to sq ac fp tp fl wi ms sc A n c h0 h1
    ·
      by_cases h2 : (tp < 0)
      · exact rbad2 w fr to sq ac fp tp fl wi ms sc A n c h0 h1 h2
      ·
        by_cases h3 : (65535 < tp)
        · exact rbad3 w fr to sq ac fp tp fl wi ms sc A n c h0 h1 h2 h3
        ·
          by_cases h4 : (wi < 0)
          · exact rbad4 w fr to sq ac fp tp fl wi ms sc A n c h0 h1 h2 h3 h4
          ·
            by_cases h5 : (65535 < wi)
            · exact rbad5 w fr to sq ac fp tp fl wi ms sc A n c h0 h1 h2 h3 h4 h5
            ·
              by_cases h6 : (fl < 0)
              · exact rbad6 w fr to sq ac fp tp fl wi ms sc A n c h0 h1 h2 h3 h4 h5 h6
              ·
                by_cases h7 : (63 < fl)
                · exact rbad7 w fr to sq ac fp tp fl wi ms sc A n c h0 h1 h2 h3 h4 h5 h6 h7
                ·
                  by_cases h8 : (ms < 0)
                  · exact rbad8 w fr to sq ac fp tp fl wi ms sc A n c h0 h1 h2 h3 h4 h5 h6 h7 h8
                  ·
                    by_cases h9 : (65535 < ms)
                    · exact rbad9 w fr to sq ac fp tp fl wi ms sc A n c h0 h1 h2 h3 h4 h5 h6 h7 h8 h9
                    ·
                      by_cases h10 : (sc < -1)
                      · exact rbad10 w fr to sq ac fp tp fl wi ms sc A n c h0 h1 h2 h3 h4 h5 h6 h7 h8 h9 h10
                      ·
                        by_cases h11 : (14 < sc)
                        · exact rbad11 w fr to sq ac fp tp fl wi ms sc A n c h0 h1 h2 h3 h4 h5 h6 h7 h8 h9 h10 h11
                        ·
                          exact absurd ⟨⟨by omega, by omega⟩, ⟨by omega, by omega⟩, ⟨by omega, by omega⟩, ⟨by omega, by omega⟩, ⟨by omega, by omega⟩, ⟨by omega, by omega⟩⟩ h
end Go.Proofs.Ytkpdgfimibmoeaa.seg
