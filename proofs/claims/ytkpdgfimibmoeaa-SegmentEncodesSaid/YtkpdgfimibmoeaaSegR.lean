/-
  Chapter 14 (segment): the document's own Encode, by a walk of its text. Conditions: none but those typed.
-/
import Derived.Test.YtkpdgfimibmoeaaSegE
import Derived.Test.YtkpdgfimibmoeaaRga
import Derived.Test.YtkpdgfimibmoeaaPsd14
namespace Go.Proofs.Ytkpdgfimibmoeaa.seg
set_option linter.unusedVariables false
set_option linter.unusedSimpArgs false
open Go.ChangeShapes Go.WideShapes Go.ChangeAt Go.RowKit Go.IntWalk Go.Lib
set_option maxRecDepth 100000 in
set_option maxHeartbeats 20000000 in
theorem rencL (w : World) (fr to sq ac : Int) (fp tp fl wi : Int) (A : Option Addr) (n c : Nat) (hg : Good fp tp fl wi 0 (-1)) (hnn : 65495 < n + 0) (hnx : n ≤ 70000) :
    Calls Try.prog 12 #[.agg #[.int .u32 fr, .int .i64 fp, .int .u32 to, .int .i64 tp, .int .u32 sq, .int .u32 ac, .int .i64 fl, .int .i64 wi, .int .i64 0, .int .i64 (-1), .slice A n c]] w fun x w' => x = .returned (.tuple #[.slice none 0 0, .int .i64 5]) ∧ Only [] w w' := by
  have OB : Hid (Ob (w.alloc (.cells #[.int .u32 fr, .int .i64 fp, .int .u32 to, .int .i64 tp, .int .u32 sq, .int .u32 ac, .int .i64 fl, .int .i64 wi, .int .i64 0, .int .i64 (-1), .slice A n c] 26)) w.heap.size 26 #[.int .u32 fr, .int .i64 fp, .int .u32 to, .int .i64 tp, .int .u32 sq, .int .u32 ac, .int .i64 fl, .int .i64 wi, .int .i64 0, .int .i64 (-1), .slice A n c]) := hid (Ob.new _ _ _)
  have QB : Hid (Only [] w (w.alloc (.cells #[.int .u32 fr, .int .i64 fp, .int .u32 to, .int .i64 tp, .int .u32 sq, .int .u32 ac, .int .i64 fl, .int .i64 wi, .int .i64 0, .int .i64 (-1), .slice A n c] 26))) := hid ((Only.refl [] w).alloc _)
  have B : Hid (Below w.heap.size w (w.alloc (.cells #[.int .u32 fr, .int .i64 fp, .int .u32 to, .int .i64 tp, .int .u32 sq, .int .u32 ac, .int .i64 fl, .int .i64 wi, .int .i64 0, .int .i64 (-1), .slice A n c] 26))) := hid ((Below.refl _ _).alloc (Nat.le_refl _) _)
  have HG := hid hg
  obtain ⟨⟨a1, a2⟩, ⟨a3, a4⟩, ⟨a5, a6⟩, ⟨a7, a8⟩, ⟨a9, a10⟩, ⟨a11, a12⟩⟩ := hg
  have HNN := hid hnn
  skip
  skip
  have hlen : 65515 < 20 + (0 : Int) + (n : Int) := by omega
  go_enter Try.func12, Try.ntmps12
  have OBc := hid OB.out; have k0 := OBc.out.cell 0; have k1 := OBc.out.cell 1; have k2 := OBc.out.cell 2; have k3 := OBc.out.cell 3; have k4 := OBc.out.cell 4; have k5 := OBc.out.cell 5; have k6 := OBc.out.cell 6; have k7 := OBc.out.cell 7; have k8 := OBc.out.cell 8; have k9 := OBc.out.cell 9; have k10 := OBc.out.cell 10
  have V6 : Hid (Own .u8 5 (w.alloc (.cells #[.int .u32 fr, .int .i64 fp, .int .u32 to, .int .i64 tp, .int .u32 sq, .int .u32 ac, .int .i64 fl, .int .i64 wi, .int .i64 0, .int .i64 (-1), .slice A n c] 26)) w.heap.size (.slice none 0 0) []) := hid (Own.nil _ _ _ _)
  have R6 : Hid (Rd .u8 (w.alloc (.cells #[.int .u32 fr, .int .i64 fp, .int .u32 to, .int .i64 tp, .int .u32 sq, .int .u32 ac, .int .i64 fl, .int .i64 wi, .int .i64 0, .int .i64 (-1), .slice A n c] 26)) none 0 []) := hid (Rd.nil _ _ _)
  have N6 : Hid ((none : Option Addr) = none → (0 : Nat) = 0) := hid (fun _ => rfl)
  have OBc := hid OB.out; have k0 := OBc.out.cell 0; have k1 := OBc.out.cell 1; have k2 := OBc.out.cell 2; have k3 := OBc.out.cell 3; have k4 := OBc.out.cell 4; have k5 := OBc.out.cell 5; have k6 := OBc.out.cell 6; have k7 := OBc.out.cell 7; have k8 := OBc.out.cell 8; have k9 := OBc.out.cell 9; have k10 := OBc.out.cell 10
  have QF := hid (Only.of_below B.out (S := []))
  go_wp2
  go_ret2
  exact ⟨rfl, QF.out⟩
set_option maxRecDepth 100000 in
set_option maxHeartbeats 20000000 in
theorem rencSL (w : World) (fr to sq ac : Int) (fp tp fl wi sc : Int) (A : Option Addr) (n c : Nat) (hg : Good fp tp fl wi 0 sc) (hsc : sc ≠ -1) (hnn : 65495 < n + 4) (hnx : n ≤ 70000) :
    Calls Try.prog 12 #[.agg #[.int .u32 fr, .int .i64 fp, .int .u32 to, .int .i64 tp, .int .u32 sq, .int .u32 ac, .int .i64 fl, .int .i64 wi, .int .i64 0, .int .i64 sc, .slice A n c]] w fun x w' => x = .returned (.tuple #[.slice none 0 0, .int .i64 5]) ∧ Only [] w w' := by
  have OB : Hid (Ob (w.alloc (.cells #[.int .u32 fr, .int .i64 fp, .int .u32 to, .int .i64 tp, .int .u32 sq, .int .u32 ac, .int .i64 fl, .int .i64 wi, .int .i64 0, .int .i64 sc, .slice A n c] 26)) w.heap.size 26 #[.int .u32 fr, .int .i64 fp, .int .u32 to, .int .i64 tp, .int .u32 sq, .int .u32 ac, .int .i64 fl, .int .i64 wi, .int .i64 0, .int .i64 sc, .slice A n c]) := hid (Ob.new _ _ _)
  have QB : Hid (Only [] w (w.alloc (.cells #[.int .u32 fr, .int .i64 fp, .int .u32 to, .int .i64 tp, .int .u32 sq, .int .u32 ac, .int .i64 fl, .int .i64 wi, .int .i64 0, .int .i64 sc, .slice A n c] 26))) := hid ((Only.refl [] w).alloc _)
  have B : Hid (Below w.heap.size w (w.alloc (.cells #[.int .u32 fr, .int .i64 fp, .int .u32 to, .int .i64 tp, .int .u32 sq, .int .u32 ac, .int .i64 fl, .int .i64 wi, .int .i64 0, .int .i64 sc, .slice A n c] 26))) := hid ((Below.refl _ _).alloc (Nat.le_refl _) _)
  have HG := hid hg
  obtain ⟨⟨a1, a2⟩, ⟨a3, a4⟩, ⟨a5, a6⟩, ⟨a7, a8⟩, ⟨a9, a10⟩, ⟨a11, a12⟩⟩ := hg
  have HNN := hid hnn
  skip
  have d9 : (sc != -1) = true := by simpa using hsc
  have hlen : 65515 < 20 + (4 : Int) + (n : Int) := by omega
  go_enter Try.func12, Try.ntmps12
  have OBc := hid OB.out; have k0 := OBc.out.cell 0; have k1 := OBc.out.cell 1; have k2 := OBc.out.cell 2; have k3 := OBc.out.cell 3; have k4 := OBc.out.cell 4; have k5 := OBc.out.cell 5; have k6 := OBc.out.cell 6; have k7 := OBc.out.cell 7; have k8 := OBc.out.cell 8; have k9 := OBc.out.cell 9; have k10 := OBc.out.cell 10
  have VC : Hid (Own .u8 5 ((w.alloc (.cells #[.int .u32 fr, .int .i64 fp, .int .u32 to, .int .i64 tp, .int .u32 sq, .int .u32 ac, .int .i64 fl, .int .i64 wi, .int .i64 0, .int .i64 sc, .slice A n c] 26)).alloc (.cells #[.int .u8 1, .int .u8 3, .int .u8 3, .int .u8 sc] 5)) (w.heap.size + 1) (.slice (some ⟨(w.heap.size + 1), 0, none⟩) 4 4) [1, 3, 3, sc]) := hid (by
    have h := Own.lit .u8 5 (w.alloc (.cells #[.int .u32 fr, .int .i64 fp, .int .u32 to, .int .i64 tp, .int .u32 sq, .int .u32 ac, .int .i64 fl, .int .i64 wi, .int .i64 0, .int .i64 sc, .slice A n c] 26)) (w.heap.size + 1) [1, 3, 3, sc] #[.int .u8 1, .int .u8 3, .int .u8 3, .int .u8 sc] 4 rfl rfl (by have := OB.out.lt; omega) (by simp [maxLen]) (by intro z hz; simp at hz; apply hlp.u8wf; omega)
    simpa using h)
  have B := hid (B.out.alloc (by have := B.out.size; omega) (.cells #[.int .u8 1, .int .u8 3, .int .u8 3, .int .u8 sc] 5)); have OB := hid (OB.out.alloc (.cells #[.int .u8 1, .int .u8 3, .int .u8 3, .int .u8 sc] 5))
  have V6 : Hid (Own .u8 5 ((w.alloc (.cells #[.int .u32 fr, .int .i64 fp, .int .u32 to, .int .i64 tp, .int .u32 sq, .int .u32 ac, .int .i64 fl, .int .i64 wi, .int .i64 0, .int .i64 sc, .slice A n c] 26)).alloc (.cells #[.int .u8 1, .int .u8 3, .int .u8 3, .int .u8 sc] 5)) (w.heap.size + 1) (.slice none 0 0) []) := hid (Own.nil _ _ _ _)
  go_wp2_with (at_builtin; refine wpList_app _ rfl (.tmp 76) (.tmp 80) _ rfl hlp.elemB (w.heap.size + 1) _ ([]) rfl ?c7a (some ⟨(w.heap.size + 1), 0, none⟩) 4 4 ([1, 3, 3, sc]) rfl ?c7b ?c7c ?c7d ?c7e ?c7f ?_)
  try case c7a => exact V6.out
  try case c7b => exact VC.out.rd
  try case c7c => simp
  try case c7d => first | (simp; done) | (simp; omega) | omega
  try case c7e => unfold maxLen; first | (simp; done) | (simp; omega) | omega
  try case c7f => have := B.out.size; have h0 := OB.out.lt; first | omega | (simp; omega) | (simp at this; simp; omega)
  intro v7 W7 hv hg hb
  have V7 := hid hv
  have B := hid (B.out.grown hg (by have := B.out.size; first | omega | (simp; omega) | (simp at this; simp; omega)) (fun k hk => by have := ((V6.out).lt k hk).1; omega))
  have OB := hid (OB.out.same (Same.grown hg OB.out.lt (fun e => by have := (V6.out.lt _ e).1; omega)))
  clear hv hg hb
  have V6 : Hid (Own .u8 5 W7 (w.heap.size + 1) v7 [1, 3, 3, sc]) := hid (by simpa using V7.out)
  clear VC V7 k0 k1 k2 k3 k4 k5 k6 k7 k8 k9 k10
  obtain ⟨A4, c4, ev4, _, _, r4, _⟩ := V6.out.slice
  have N6 := hid (own_notNil V6.out ev4)
  have R6 := hid r4; clear r4
  simp only [List.length_cons, List.length_nil, Nat.zero_add, Nat.reduceAdd] at ev4 R6
  subst ev4
  have OBc := hid OB.out; have k0 := OBc.out.cell 0; have k1 := OBc.out.cell 1; have k2 := OBc.out.cell 2; have k3 := OBc.out.cell 3; have k4 := OBc.out.cell 4; have k5 := OBc.out.cell 5; have k6 := OBc.out.cell 6; have k7 := OBc.out.cell 7; have k8 := OBc.out.cell 8; have k9 := OBc.out.cell 9; have k10 := OBc.out.cell 10
  have QF := hid (Only.of_below B.out (S := []))
  go_wp2
  go_ret2
  exact ⟨rfl, QF.out⟩
set_option maxRecDepth 100000 in
set_option maxHeartbeats 20000000 in
theorem rencML (w : World) (fr to sq ac : Int) (fp tp fl wi ms : Int) (A : Option Addr) (n c : Nat) (hg : Good fp tp fl wi ms (-1)) (hms : ms ≠ 0) (hnn : 65495 < n + 4) (hnx : n ≤ 70000) :
    Calls Try.prog 12 #[.agg #[.int .u32 fr, .int .i64 fp, .int .u32 to, .int .i64 tp, .int .u32 sq, .int .u32 ac, .int .i64 fl, .int .i64 wi, .int .i64 ms, .int .i64 (-1), .slice A n c]] w fun x w' => x = .returned (.tuple #[.slice none 0 0, .int .i64 5]) ∧ Only [] w w' := by
  have OB : Hid (Ob (w.alloc (.cells #[.int .u32 fr, .int .i64 fp, .int .u32 to, .int .i64 tp, .int .u32 sq, .int .u32 ac, .int .i64 fl, .int .i64 wi, .int .i64 ms, .int .i64 (-1), .slice A n c] 26)) w.heap.size 26 #[.int .u32 fr, .int .i64 fp, .int .u32 to, .int .i64 tp, .int .u32 sq, .int .u32 ac, .int .i64 fl, .int .i64 wi, .int .i64 ms, .int .i64 (-1), .slice A n c]) := hid (Ob.new _ _ _)
  have QB : Hid (Only [] w (w.alloc (.cells #[.int .u32 fr, .int .i64 fp, .int .u32 to, .int .i64 tp, .int .u32 sq, .int .u32 ac, .int .i64 fl, .int .i64 wi, .int .i64 ms, .int .i64 (-1), .slice A n c] 26))) := hid ((Only.refl [] w).alloc _)
  have B : Hid (Below w.heap.size w (w.alloc (.cells #[.int .u32 fr, .int .i64 fp, .int .u32 to, .int .i64 tp, .int .u32 sq, .int .u32 ac, .int .i64 fl, .int .i64 wi, .int .i64 ms, .int .i64 (-1), .slice A n c] 26))) := hid ((Below.refl _ _).alloc (Nat.le_refl _) _)
  have HG := hid hg
  obtain ⟨⟨a1, a2⟩, ⟨a3, a4⟩, ⟨a5, a6⟩, ⟨a7, a8⟩, ⟨a9, a10⟩, ⟨a11, a12⟩⟩ := hg
  have HNN := hid hnn
  have d8 : (ms != 0) = true := by simpa using hms
  skip
  have hlen : 65515 < 20 + (4 : Int) + (n : Int) := by omega
  go_enter Try.func12, Try.ntmps12
  have OBc := hid OB.out; have k0 := OBc.out.cell 0; have k1 := OBc.out.cell 1; have k2 := OBc.out.cell 2; have k3 := OBc.out.cell 3; have k4 := OBc.out.cell 4; have k5 := OBc.out.cell 5; have k6 := OBc.out.cell 6; have k7 := OBc.out.cell 7; have k8 := OBc.out.cell 8; have k9 := OBc.out.cell 9; have k10 := OBc.out.cell 10
  go_wp2_with fail
  clear k0 k1 k2 k3 k4 k5 k6 k7 k8 k9 k10
  have VA : Hid (Own .u8 5 ((w.alloc (.cells #[.int .u32 fr, .int .i64 fp, .int .u32 to, .int .i64 tp, .int .u32 sq, .int .u32 ac, .int .i64 fl, .int .i64 wi, .int .i64 ms, .int .i64 (-1), .slice A n c] 26)).alloc (.cells #[.int .u8 2, .int .u8 4] 5)) (w.heap.size + 1) (.slice (some ⟨w.heap.size + 1, 0, none⟩) 2 2) [2, 4]) := hid (by
    have h := Own.lit .u8 5 (w.alloc (.cells #[.int .u32 fr, .int .i64 fp, .int .u32 to, .int .i64 tp, .int .u32 sq, .int .u32 ac, .int .i64 fl, .int .i64 wi, .int .i64 ms, .int .i64 (-1), .slice A n c] 26)) (w.heap.size + 1) [2, 4] #[.int .u8 2, .int .u8 4] 2 rfl rfl (by simp) (by simp [maxLen]) (by intro z hz; simp at hz; apply hlp.u8wf; omega)
    simpa using h)
  have B := hid (B.out.alloc (by have := B.out.size; omega) (.cells #[.int .u8 2, .int .u8 4] 5)); have OB := hid (OB.out.alloc (.cells #[.int .u8 2, .int .u8 4] 5))
  refine (ref.two1 _ ms).mono ?_
  rintro x w5 ⟨g5, rfl, h5, o5⟩
  have VA := hid (VA.out.only_nil o5); have V5 := hid h5; have OB := hid (OB.out.only o5 (by simp)); have B := hid (B.out.trans (o5.below_nil.mono (by have := B.out.size; omega))); clear h5 o5
  go_wp2_with (at_builtin; refine wpList_app _ rfl (.tmp 68) (.tmp 71) _ rfl hlp.elemB (w.heap.size + 1) _ ([2, 4]) rfl ?c6a (some ⟨g5, 0, none⟩) 2 2 (ref.two ms) rfl ?c6b ?c6c ?c6d ?c6e ?c6f ?_)
  case c6a => exact VA.out
  case c6b => exact V5.out.rd
  case c6c => simp
  case c6d => first | (simp [ref.two]; done) | (simp [ref.two]; omega) | omega
  case c6e => unfold maxLen; first | (simp [ref.two]; done) | (simp [ref.two]; omega) | omega
  case c6f => have := B.out.size; have h0 := OB.out.lt; first | omega | (simp; omega) | (simp at this; simp; omega)
  intro v6 W6 hv hg hb
  have V6 := hid hv
  have B := hid (B.out.grown hg (by have := B.out.size; first | omega | (simp; omega) | (simp at this; simp; omega)) (fun k hk => by have := ((VA.out).lt k hk).1; omega))
  have OB := hid (OB.out.same (Same.grown hg OB.out.lt (fun e => by have := (VA.out.lt _ e).1; omega)))
  clear hv hg hb
  have V6 : Hid (Own .u8 5 W6 (w.heap.size + 1) v6 [2, 4, ms / 256 % 256, ms % 256]) := hid (by simpa [ref.two] using V6.out)
  clear VA V5
  obtain ⟨A4, c4, ev4, _, _, r4, _⟩ := V6.out.slice
  have N6 := hid (own_notNil V6.out ev4)
  have R6 := hid r4; clear r4
  simp only [List.length_cons, List.length_nil, Nat.zero_add, Nat.reduceAdd] at ev4 R6
  subst ev4
  have OBc := hid OB.out; have k0 := OBc.out.cell 0; have k1 := OBc.out.cell 1; have k2 := OBc.out.cell 2; have k3 := OBc.out.cell 3; have k4 := OBc.out.cell 4; have k5 := OBc.out.cell 5; have k6 := OBc.out.cell 6; have k7 := OBc.out.cell 7; have k8 := OBc.out.cell 8; have k9 := OBc.out.cell 9; have k10 := OBc.out.cell 10
  have QF := hid (Only.of_below B.out (S := []))
  go_wp2
  go_ret2
  exact ⟨rfl, QF.out⟩
set_option maxRecDepth 100000 in
set_option maxHeartbeats 20000000 in
theorem rencMSL (w : World) (fr to sq ac : Int) (fp tp fl wi ms sc : Int) (A : Option Addr) (n c : Nat) (hg : Good fp tp fl wi ms sc) (hms : ms ≠ 0) (hsc : sc ≠ -1) (hnn : 65495 < n + 8) (hnx : n ≤ 70000) :
    Calls Try.prog 12 #[.agg #[.int .u32 fr, .int .i64 fp, .int .u32 to, .int .i64 tp, .int .u32 sq, .int .u32 ac, .int .i64 fl, .int .i64 wi, .int .i64 ms, .int .i64 sc, .slice A n c]] w fun x w' => x = .returned (.tuple #[.slice none 0 0, .int .i64 5]) ∧ Only [] w w' := by
  have OB : Hid (Ob (w.alloc (.cells #[.int .u32 fr, .int .i64 fp, .int .u32 to, .int .i64 tp, .int .u32 sq, .int .u32 ac, .int .i64 fl, .int .i64 wi, .int .i64 ms, .int .i64 sc, .slice A n c] 26)) w.heap.size 26 #[.int .u32 fr, .int .i64 fp, .int .u32 to, .int .i64 tp, .int .u32 sq, .int .u32 ac, .int .i64 fl, .int .i64 wi, .int .i64 ms, .int .i64 sc, .slice A n c]) := hid (Ob.new _ _ _)
  have QB : Hid (Only [] w (w.alloc (.cells #[.int .u32 fr, .int .i64 fp, .int .u32 to, .int .i64 tp, .int .u32 sq, .int .u32 ac, .int .i64 fl, .int .i64 wi, .int .i64 ms, .int .i64 sc, .slice A n c] 26))) := hid ((Only.refl [] w).alloc _)
  have B : Hid (Below w.heap.size w (w.alloc (.cells #[.int .u32 fr, .int .i64 fp, .int .u32 to, .int .i64 tp, .int .u32 sq, .int .u32 ac, .int .i64 fl, .int .i64 wi, .int .i64 ms, .int .i64 sc, .slice A n c] 26))) := hid ((Below.refl _ _).alloc (Nat.le_refl _) _)
  have HG := hid hg
  obtain ⟨⟨a1, a2⟩, ⟨a3, a4⟩, ⟨a5, a6⟩, ⟨a7, a8⟩, ⟨a9, a10⟩, ⟨a11, a12⟩⟩ := hg
  have HNN := hid hnn
  have d8 : (ms != 0) = true := by simpa using hms
  have d9 : (sc != -1) = true := by simpa using hsc
  have hlen : 65515 < 20 + (8 : Int) + (n : Int) := by omega
  go_enter Try.func12, Try.ntmps12
  have OBc := hid OB.out; have k0 := OBc.out.cell 0; have k1 := OBc.out.cell 1; have k2 := OBc.out.cell 2; have k3 := OBc.out.cell 3; have k4 := OBc.out.cell 4; have k5 := OBc.out.cell 5; have k6 := OBc.out.cell 6; have k7 := OBc.out.cell 7; have k8 := OBc.out.cell 8; have k9 := OBc.out.cell 9; have k10 := OBc.out.cell 10
  go_wp2_with fail
  clear k0 k1 k2 k3 k4 k5 k6 k7 k8 k9 k10
  have VA : Hid (Own .u8 5 ((w.alloc (.cells #[.int .u32 fr, .int .i64 fp, .int .u32 to, .int .i64 tp, .int .u32 sq, .int .u32 ac, .int .i64 fl, .int .i64 wi, .int .i64 ms, .int .i64 sc, .slice A n c] 26)).alloc (.cells #[.int .u8 2, .int .u8 4] 5)) (w.heap.size + 1) (.slice (some ⟨w.heap.size + 1, 0, none⟩) 2 2) [2, 4]) := hid (by
    have h := Own.lit .u8 5 (w.alloc (.cells #[.int .u32 fr, .int .i64 fp, .int .u32 to, .int .i64 tp, .int .u32 sq, .int .u32 ac, .int .i64 fl, .int .i64 wi, .int .i64 ms, .int .i64 sc, .slice A n c] 26)) (w.heap.size + 1) [2, 4] #[.int .u8 2, .int .u8 4] 2 rfl rfl (by simp) (by simp [maxLen]) (by intro z hz; simp at hz; apply hlp.u8wf; omega)
    simpa using h)
  have B := hid (B.out.alloc (by have := B.out.size; omega) (.cells #[.int .u8 2, .int .u8 4] 5)); have OB := hid (OB.out.alloc (.cells #[.int .u8 2, .int .u8 4] 5))
  refine (ref.two1 _ ms).mono ?_
  rintro x w5 ⟨g5, rfl, h5, o5⟩
  have VA := hid (VA.out.only_nil o5); have V5 := hid h5; have OB := hid (OB.out.only o5 (by simp)); have B := hid (B.out.trans (o5.below_nil.mono (by have := B.out.size; omega))); clear h5 o5
  go_wp2_with (at_builtin; refine wpList_app _ rfl (.tmp 68) (.tmp 71) _ rfl hlp.elemB (w.heap.size + 1) _ ([2, 4]) rfl ?c6a (some ⟨g5, 0, none⟩) 2 2 (ref.two ms) rfl ?c6b ?c6c ?c6d ?c6e ?c6f ?_)
  case c6a => exact VA.out
  case c6b => exact V5.out.rd
  case c6c => simp
  case c6d => first | (simp [ref.two]; done) | (simp [ref.two]; omega) | omega
  case c6e => unfold maxLen; first | (simp [ref.two]; done) | (simp [ref.two]; omega) | omega
  case c6f => have := B.out.size; have h0 := OB.out.lt; first | omega | (simp; omega) | (simp at this; simp; omega)
  intro v6 W6 hv hg hb
  have V6 := hid hv
  have B := hid (B.out.grown hg (by have := B.out.size; first | omega | (simp; omega) | (simp at this; simp; omega)) (fun k hk => by have := ((VA.out).lt k hk).1; omega))
  have OB := hid (OB.out.same (Same.grown hg OB.out.lt (fun e => by have := (VA.out.lt _ e).1; omega)))
  clear hv hg hb
  have V6 : Hid (Own .u8 5 W6 (w.heap.size + 1) v6 [2, 4, ms / 256 % 256, ms % 256]) := hid (by simpa [ref.two] using V6.out)
  clear VA V5
  have OBc := hid OB.out; have k0 := OBc.out.cell 0; have k1 := OBc.out.cell 1; have k2 := OBc.out.cell 2; have k3 := OBc.out.cell 3; have k4 := OBc.out.cell 4; have k5 := OBc.out.cell 5; have k6 := OBc.out.cell 6; have k7 := OBc.out.cell 7; have k8 := OBc.out.cell 8; have k9 := OBc.out.cell 9; have k10 := OBc.out.cell 10
  have VC : Hid (Own .u8 5 (W6.alloc (.cells #[.int .u8 1, .int .u8 3, .int .u8 3, .int .u8 sc] 5)) (w.heap.size + 1) (.slice (some ⟨W6.heap.size, 0, none⟩) 4 4) [1, 3, 3, sc]) := hid (by
    have h := Own.lit .u8 5 W6 (w.heap.size + 1) [1, 3, 3, sc] #[.int .u8 1, .int .u8 3, .int .u8 3, .int .u8 sc] 4 rfl rfl (by have := OB.out.lt; omega) (by simp [maxLen]) (by intro z hz; simp at hz; apply hlp.u8wf; omega)
    simpa using h)
  have B := hid (B.out.alloc (by have := B.out.size; omega) (.cells #[.int .u8 1, .int .u8 3, .int .u8 3, .int .u8 sc] 5)); have OB := hid (OB.out.alloc (.cells #[.int .u8 1, .int .u8 3, .int .u8 3, .int .u8 sc] 5))
  have V6 := hid (V6.out.alloc (.cells #[.int .u8 1, .int .u8 3, .int .u8 3, .int .u8 sc] 5))
  go_wp2_with (at_builtin; refine wpList_app _ rfl (.tmp 76) (.tmp 80) _ rfl hlp.elemB (w.heap.size + 1) _ ([2, 4, ms / 256 % 256, ms % 256]) rfl ?c7a (some ⟨W6.heap.size, 0, none⟩) 4 4 ([1, 3, 3, sc]) rfl ?c7b ?c7c ?c7d ?c7e ?c7f ?_)
  case c7a => exact V6.out
  case c7b => exact VC.out.rd
  case c7c => simp
  case c7d => first | (simp; done) | (simp; omega) | omega
  case c7e => unfold maxLen; first | (simp; done) | (simp; omega) | omega
  case c7f => have := B.out.size; have h0 := OB.out.lt; first | omega | (simp; omega) | (simp at this; simp; omega)
  intro v7 W7 hv hg hb
  have V7 := hid hv
  have B := hid (B.out.grown hg (by have := B.out.size; first | omega | (simp; omega) | (simp at this; simp; omega)) (fun k hk => by have := ((V6.out).lt k hk).1; omega))
  have OB := hid (OB.out.same (Same.grown hg OB.out.lt (fun e => by have := (V6.out.lt _ e).1; omega)))
  clear hv hg hb
  have V6 : Hid (Own .u8 5 W7 (w.heap.size + 1) v7 [2, 4, ms / 256 % 256, ms % 256, 1, 3, 3, sc]) := hid (by simpa using V7.out)
  clear VC V7 k0 k1 k2 k3 k4 k5 k6 k7 k8 k9 k10
  obtain ⟨A4, c4, ev4, _, _, r4, _⟩ := V6.out.slice
  have N6 := hid (own_notNil V6.out ev4)
  have R6 := hid r4; clear r4
  simp only [List.length_cons, List.length_nil, Nat.zero_add, Nat.reduceAdd] at ev4 R6
  subst ev4
  have OBc := hid OB.out; have k0 := OBc.out.cell 0; have k1 := OBc.out.cell 1; have k2 := OBc.out.cell 2; have k3 := OBc.out.cell 3; have k4 := OBc.out.cell 4; have k5 := OBc.out.cell 5; have k6 := OBc.out.cell 6; have k7 := OBc.out.cell 7; have k8 := OBc.out.cell 8; have k9 := OBc.out.cell 9; have k10 := OBc.out.cell 10
  have QF := hid (Only.of_below B.out (S := []))
  go_wp2
  go_ret2
  exact ⟨rfl, QF.out⟩
end Go.Proofs.Ytkpdgfimibmoeaa.seg
