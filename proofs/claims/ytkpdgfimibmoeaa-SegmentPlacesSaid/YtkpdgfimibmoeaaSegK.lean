/-
  Chapter 14 (segment): each part of a segment at its place, the law, by a walk of its text. Conditions: none but those typed.
-/
import Derived.Test.YtkpdgfimibmoeaaSegG0
import Derived.Test.YtkpdgfimibmoeaaSegG0z
import Derived.Test.YtkpdgfimibmoeaaSegG4
import Derived.Test.YtkpdgfimibmoeaaSegG4z
import Derived.Test.YtkpdgfimibmoeaaSegG8
import Derived.Test.YtkpdgfimibmoeaaSegG8z
namespace Go.Proofs.Ytkpdgfimibmoeaa.seg
set_option linter.unusedVariables false
set_option linter.unusedSimpArgs false
open Go.ChangeShapes Go.WideShapes Go.ChangeAt Go.RowKit Go.IntWalk Go.Lib
set_option maxHeartbeats 4000000 in
theorem placesBad (w : World) (fr to sq ac : Int) (fp tp fl wi ms sc : Int) (A : Option Addr) (n c : Nat) (hn : n ≤ 70000) (h : chk fp tp fl wi ms sc n ≠ 0) :
    Calls Try.prog 9 #[.agg #[.int .u32 fr, .int .i64 fp, .int .u32 to, .int .i64 tp, .int .u32 sq, .int .u32 ac, .int .i64 fl, .int .i64 wi, .int .i64 ms, .int .i64 sc, .slice A n c]] w fun x w' => x = .returned (.bool true) ∧ Only [] w w' := by
  have OB : Hid (Ob (w.alloc (.cells #[.int .u32 fr, .int .i64 fp, .int .u32 to, .int .i64 tp, .int .u32 sq, .int .u32 ac, .int .i64 fl, .int .i64 wi, .int .i64 ms, .int .i64 sc, .slice A n c] 26)) w.heap.size 26 #[.int .u32 fr, .int .i64 fp, .int .u32 to, .int .i64 tp, .int .u32 sq, .int .u32 ac, .int .i64 fl, .int .i64 wi, .int .i64 ms, .int .i64 sc, .slice A n c]) := hid (Ob.new _ _ _)
  have QB : Hid (Only [] w (w.alloc (.cells #[.int .u32 fr, .int .i64 fp, .int .u32 to, .int .i64 tp, .int .u32 sq, .int .u32 ac, .int .i64 fl, .int .i64 wi, .int .i64 ms, .int .i64 sc, .slice A n c] 26))) := hid ((Only.refl [] w).alloc _)
  have d1 : (chk fp tp fl wi ms sc n != 0) = true := by simpa using h
  have HD := hid d1; have HD2 := hid h; clear d1 h
  go_enter Try.func9, Try.ntmps9
  go_wp2_with fail
  refine (encE _ fr to sq ac fp tp fl wi ms sc A n c HD2.out).mono ?_
  rintro x w2 ⟨rfl, o2⟩
  have QB := hid (QB.out.trans o2); clear o2
  have d1 := HD.out
  generalize chk fp tp fl wi ms sc n = er at *
  go_wp2_with fail
  refine (known _).mono ?_
  rintro x w3 ⟨rfl, o3⟩
  have QB := hid ((QB.out.alloc _).trans o3); clear o3
  go_wp2
  go_ret
  exact ⟨rfl, QB.out⟩
set_option maxHeartbeats 4000000 in
theorem placesOut (w : World) (fr to sq ac : Int) (fp tp fl wi ms sc : Int) (A : Option Addr) (n c : Nat) (hn : ¬ n ≤ 70000) :
    Calls Try.prog 9 #[.agg #[.int .u32 fr, .int .i64 fp, .int .u32 to, .int .i64 tp, .int .u32 sq, .int .u32 ac, .int .i64 fl, .int .i64 wi, .int .i64 ms, .int .i64 sc, .slice A n c]] w fun x w' => x = .returned (.bool true) ∧ Only [] w w' := by
  have h : 70000 < n := by omega
  go_enter Try.func9, Try.ntmps9
  go_wp2
  go_ret
  exact ⟨rfl, (Only.refl [] w).alloc _⟩
set_option maxHeartbeats 4000000 in
theorem places (w : World) (fr to sq ac : Int) (fp tp fl wi ms sc : Int) (A : Option Addr) (n c : Nat) (l : List Int) (hl : Rd .u8 w A n l) (hc0 : A = none → c = 0) (h4 : (Lit.int .u32 sq).wf = true) (h5 : (Lit.int .u32 ac).wf = true) :
    Calls Try.prog 9 #[.agg #[.int .u32 fr, .int .i64 fp, .int .u32 to, .int .i64 tp, .int .u32 sq, .int .u32 ac, .int .i64 fl, .int .i64 wi, .int .i64 ms, .int .i64 sc, .slice A n c]] w fun x w' => x = .returned (.bool true) ∧ Only [] w w' := by
  have h4 := u32Bd h4
  have h5 := u32Bd h5
  by_cases hn : n ≤ 70000
  · by_cases h : chk fp tp fl wi ms sc n = 0
    · rcases opt_len4 ms sc with ho | ho | ho
      · by_cases hz : n = 0
        · subst hz
          exact placesOk0z w fr to sq ac fp tp fl wi ms sc A c l hl hc0 (by omega) h4 h5 h ho
        · exact placesOk0 w fr to sq ac fp tp fl wi ms sc A n c l hl hc0 hn h4 h5 h ho (by omega)
      · by_cases hz : n = 0
        · subst hz
          exact placesOk4z w fr to sq ac fp tp fl wi ms sc A c l hl hc0 (by omega) h4 h5 h ho
        · exact placesOk4 w fr to sq ac fp tp fl wi ms sc A n c l hl hc0 hn h4 h5 h ho (by omega)
      · by_cases hz : n = 0
        · subst hz
          exact placesOk8z w fr to sq ac fp tp fl wi ms sc A c l hl hc0 (by omega) h4 h5 h ho
        · exact placesOk8 w fr to sq ac fp tp fl wi ms sc A n c l hl hc0 hn h4 h5 h ho (by omega)
    · exact placesBad w fr to sq ac fp tp fl wi ms sc A n c hn h
  · exact placesOut w fr to sq ac fp tp fl wi ms sc A n c hn
end Go.Proofs.Ytkpdgfimibmoeaa.seg
