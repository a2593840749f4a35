/-
  Chapter 14 (segment): the document's own Encode, by a walk of its text. Conditions: none but those typed.
-/
import Derived.Test.YtkpdgfimibmoeaaSegE
import Derived.Test.YtkpdgfimibmoeaaRga
import Derived.Test.YtkpdgfimibmoeaaPsd14
namespace Go.Proofs.Ytkpdgfimibmoeaa.seg
set_option linter.unusedVariables false
set_option linter.unusedSimpArgs false
open Go.ChangeShapes Go.WideShapes Go.ChangeAt Go.RowKit Go.IntWalk Go.Lib
set_option maxRecDepth 100000 in
set_option maxHeartbeats 20000000 in
theorem rencMS (w : World) (fr to sq ac : Int) (fp tp fl wi ms sc : Int) (A : Option Addr) (n c : Nat) (l : List Int) (hl : Rd .u8 w A n l) (hc0 : A = none → c = 0) (hg : Good fp tp fl wi ms sc) (hms : ms ≠ 0) (hsc : sc ≠ -1) (hnn : n + 8 ≤ 65495) :
    Calls Try.prog 12 #[.agg #[.int .u32 fr, .int .i64 fp, .int .u32 to, .int .i64 tp, .int .u32 sq, .int .u32 ac, .int .i64 fl, .int .i64 wi, .int .i64 ms, .int .i64 sc, .slice A n c]] w fun x w' => ∃ v, x = .returned (.tuple #[v, .int .i64 0]) ∧ Own .u8 5 w' w.heap.size v (encB fr to sq ac fp tp fl wi ms sc l) ∧ Only [] w w' := by
  have OB : Hid (Ob (w.alloc (.cells #[.int .u32 fr, .int .i64 fp, .int .u32 to, .int .i64 tp, .int .u32 sq, .int .u32 ac, .int .i64 fl, .int .i64 wi, .int .i64 ms, .int .i64 sc, .slice A n c] 26)) w.heap.size 26 #[.int .u32 fr, .int .i64 fp, .int .u32 to, .int .i64 tp, .int .u32 sq, .int .u32 ac, .int .i64 fl, .int .i64 wi, .int .i64 ms, .int .i64 sc, .slice A n c]) := hid (Ob.new _ _ _)
  have QB : Hid (Only [] w (w.alloc (.cells #[.int .u32 fr, .int .i64 fp, .int .u32 to, .int .i64 tp, .int .u32 sq, .int .u32 ac, .int .i64 fl, .int .i64 wi, .int .i64 ms, .int .i64 sc, .slice A n c] 26))) := hid ((Only.refl [] w).alloc _)
  have HLen := hid hl.len
  have HL := hid hl; clear hl
  have HC := hid hc0; clear hc0
  have B : Hid (Below w.heap.size w (w.alloc (.cells #[.int .u32 fr, .int .i64 fp, .int .u32 to, .int .i64 tp, .int .u32 sq, .int .u32 ac, .int .i64 fl, .int .i64 wi, .int .i64 ms, .int .i64 sc, .slice A n c] 26))) := hid ((Below.refl _ _).alloc (Nat.le_refl _) _)
  have HG := hid hg
  obtain ⟨⟨a1, a2⟩, ⟨a3, a4⟩, ⟨a5, a6⟩, ⟨a7, a8⟩, ⟨a9, a10⟩, ⟨a11, a12⟩⟩ := hg
  have HNN := hid hnn
  have d8 : (ms != 0) = true := by simpa using hms
  have d9 : (sc != -1) = true := by simpa using hsc
  have hlen : ¬ 65515 < 20 + (8 : Int) + (n : Int) := by omega
  go_enter Try.func12, Try.ntmps12
  have OBc := hid OB.out; have k0 := OBc.out.cell 0; have k1 := OBc.out.cell 1; have k2 := OBc.out.cell 2; have k3 := OBc.out.cell 3; have k4 := OBc.out.cell 4; have k5 := OBc.out.cell 5; have k6 := OBc.out.cell 6; have k7 := OBc.out.cell 7; have k8 := OBc.out.cell 8; have k9 := OBc.out.cell 9; have k10 := OBc.out.cell 10
  go_wp2_with fail
  clear k0 k1 k2 k3 k4 k5 k6 k7 k8 k9 k10
  have VA : Hid (Own .u8 5 ((w.alloc (.cells #[.int .u32 fr, .int .i64 fp, .int .u32 to, .int .i64 tp, .int .u32 sq, .int .u32 ac, .int .i64 fl, .int .i64 wi, .int .i64 ms, .int .i64 sc, .slice A n c] 26)).alloc (.cells #[.int .u8 2, .int .u8 4] 5)) (w.heap.size + 1) (.slice (some ⟨w.heap.size + 1, 0, none⟩) 2 2) [2, 4]) := hid (by
    have h := Own.lit .u8 5 (w.alloc (.cells #[.int .u32 fr, .int .i64 fp, .int .u32 to, .int .i64 tp, .int .u32 sq, .int .u32 ac, .int .i64 fl, .int .i64 wi, .int .i64 ms, .int .i64 sc, .slice A n c] 26)) (w.heap.size + 1) [2, 4] #[.int .u8 2, .int .u8 4] 2 rfl rfl (by simp) (by simp [maxLen]) (by intro z hz; simp at hz; apply hlp.u8wf; omega)
    simpa using h)
  have B := hid (B.out.alloc (by have := B.out.size; omega) (.cells #[.int .u8 2, .int .u8 4] 5)); have OB := hid (OB.out.alloc (.cells #[.int .u8 2, .int .u8 4] 5))
  refine (ref.two1 _ ms).mono ?_
  rintro x w5 ⟨g5, rfl, h5, o5⟩
  have VA := hid (VA.out.only_nil o5); have V5 := hid h5; have OB := hid (OB.out.only o5 (by simp)); have B := hid (B.out.trans (o5.below_nil.mono (by have := B.out.size; omega))); clear h5 o5
  go_wp2_with (at_builtin; refine wpList_app _ rfl (.tmp 68) (.tmp 71) _ rfl hlp.elemB (w.heap.size + 1) _ ([2, 4]) rfl ?c6a (some ⟨g5, 0, none⟩) 2 2 (ref.two ms) rfl ?c6b ?c6c ?c6d ?c6e ?c6f ?_)
  case c6a => exact VA.out
  case c6b => exact V5.out.rd
  case c6c => simp
  case c6d => first | (simp [ref.two]; done) | (simp [ref.two]; omega) | omega
  case c6e => unfold maxLen; first | (simp [ref.two]; done) | (simp [ref.two]; omega) | omega
  case c6f => have := B.out.size; have h0 := OB.out.lt; first | omega | (simp; omega) | (simp at this; simp; omega)
  intro v6 W6 hv hg hb
  have V6 := hid hv
  have B := hid (B.out.grown hg (by have := B.out.size; first | omega | (simp; omega) | (simp at this; simp; omega)) (fun k hk => by have := ((VA.out).lt k hk).1; omega))
  have OB := hid (OB.out.same (Same.grown hg OB.out.lt (fun e => by have := (VA.out.lt _ e).1; omega)))
  clear hv hg hb
  have V6 : Hid (Own .u8 5 W6 (w.heap.size + 1) v6 [2, 4, ms / 256 % 256, ms % 256]) := hid (by simpa [ref.two] using V6.out)
  clear VA V5
  have OBc := hid OB.out; have k0 := OBc.out.cell 0; have k1 := OBc.out.cell 1; have k2 := OBc.out.cell 2; have k3 := OBc.out.cell 3; have k4 := OBc.out.cell 4; have k5 := OBc.out.cell 5; have k6 := OBc.out.cell 6; have k7 := OBc.out.cell 7; have k8 := OBc.out.cell 8; have k9 := OBc.out.cell 9; have k10 := OBc.out.cell 10
  have VC : Hid (Own .u8 5 (W6.alloc (.cells #[.int .u8 1, .int .u8 3, .int .u8 3, .int .u8 sc] 5)) (w.heap.size + 1) (.slice (some ⟨W6.heap.size, 0, none⟩) 4 4) [1, 3, 3, sc]) := hid (by
    have h := Own.lit .u8 5 W6 (w.heap.size + 1) [1, 3, 3, sc] #[.int .u8 1, .int .u8 3, .int .u8 3, .int .u8 sc] 4 rfl rfl (by have := OB.out.lt; omega) (by simp [maxLen]) (by intro z hz; simp at hz; apply hlp.u8wf; omega)
    simpa using h)
  have B := hid (B.out.alloc (by have := B.out.size; omega) (.cells #[.int .u8 1, .int .u8 3, .int .u8 3, .int .u8 sc] 5)); have OB := hid (OB.out.alloc (.cells #[.int .u8 1, .int .u8 3, .int .u8 3, .int .u8 sc] 5))
  have V6 := hid (V6.out.alloc (.cells #[.int .u8 1, .int .u8 3, .int .u8 3, .int .u8 sc] 5))
  go_wp2_with (at_builtin; refine wpList_app _ rfl (.tmp 76) (.tmp 80) _ rfl hlp.elemB (w.heap.size + 1) _ ([2, 4, ms / 256 % 256, ms % 256]) rfl ?c7a (some ⟨W6.heap.size, 0, none⟩) 4 4 ([1, 3, 3, sc]) rfl ?c7b ?c7c ?c7d ?c7e ?c7f ?_)
  case c7a => exact V6.out
  case c7b => exact VC.out.rd
  case c7c => simp
  case c7d => first | (simp; done) | (simp; omega) | omega
  case c7e => unfold maxLen; first | (simp; done) | (simp; omega) | omega
  case c7f => have := B.out.size; have h0 := OB.out.lt; first | omega | (simp; omega) | (simp at this; simp; omega)
  intro v7 W7 hv hg hb
  have V7 := hid hv
  have B := hid (B.out.grown hg (by have := B.out.size; first | omega | (simp; omega) | (simp at this; simp; omega)) (fun k hk => by have := ((V6.out).lt k hk).1; omega))
  have OB := hid (OB.out.same (Same.grown hg OB.out.lt (fun e => by have := (V6.out.lt _ e).1; omega)))
  clear hv hg hb
  have V6 : Hid (Own .u8 5 W7 (w.heap.size + 1) v7 [2, 4, ms / 256 % 256, ms % 256, 1, 3, 3, sc]) := hid (by simpa using V7.out)
  clear VC V7 k0 k1 k2 k3 k4 k5 k6 k7 k8 k9 k10
  obtain ⟨A4, c4, ev4, _, _, r4, _⟩ := V6.out.slice
  have N6 := hid (own_notNil V6.out ev4)
  have R6 := hid r4; clear r4
  simp only [List.length_cons, List.length_nil, Nat.zero_add, Nat.reduceAdd] at ev4 R6
  subst ev4
  have OBc := hid OB.out; have k0 := OBc.out.cell 0; have k1 := OBc.out.cell 1; have k2 := OBc.out.cell 2; have k3 := OBc.out.cell 3; have k4 := OBc.out.cell 4; have k5 := OBc.out.cell 5; have k6 := OBc.out.cell 6; have k7 := OBc.out.cell 7; have k8 := OBc.out.cell 8; have k9 := OBc.out.cell 9; have k10 := OBc.out.cell 10
  go_wp2_with fail
  clear k0 k1 k2 k3 k4 k5 k6 k7 k8 k9 k10
  have hbs : w.heap.size < W7.heap.size := OB.out.lt
  have QO := hid (Only.of_below B.out (S := []))
  have B2 : Hid (Below W7.heap.size W7 W7) := hid (Below.refl _ _)
  have hsz : W7.heap.size ≤ W7.heap.size := Nat.le_refl _
  refine wp_region_noPanic ?_
  refine rgn.regionT (R := Same w.heap.size) (by kernel_rfl) (Same.refl w.heap.size) (Same.trans (g := w.heap.size)) (fun _ _ _ _ _ h => h) (.y 0 (.y 1 (.y 3 (.y 4 (.e 2 (.e 5 (.e 6 (.e 7 .z)))))))) (by kernel_rfl) (fun W hWd => ?_)
  have HWd := hid hWd; clear hWd
  have B2 := hid (show Below _ _ W from by rw [HWd.out]; exact B2.out.drew)
  clear HWd
  refine rgn.Walk.ys (v := ?_) rfl rfl rfl ?_ ?_
  rotate_left 1
  · intro W' hW'
    go_simp
    try with_reducible rfl
  try simp only [Act.put, List.setIfInBounds_toArray, List.set_cons_zero, List.set_cons_succ]
  refine rgn.Walk.ys (v := ?_) rfl rfl rfl ?_ ?_
  rotate_left 1
  · intro W' hW'
    have q0 := ((OB.out.same (show Same w.heap.size _ _ from B2.out.block _ hbs)).same hW').cell 1
    go_simp
    try with_reducible rfl
  try simp only [Act.put, List.setIfInBounds_toArray, List.set_cons_zero, List.set_cons_succ]
  refine rgn.Walk.ys (v := ?_) rfl rfl rfl ?_ ?_
  rotate_left 1
  · intro W' hW'
    go_simp
    try with_reducible rfl
  try simp only [Act.put, List.setIfInBounds_toArray, List.set_cons_zero, List.set_cons_succ]
  refine rgn.Walk.ys (v := ?_) rfl rfl rfl ?_ ?_
  rotate_left 1
  · intro W' hW'
    have q0 := ((OB.out.same (show Same w.heap.size _ _ from B2.out.block _ hbs)).same hW').cell 3
    go_simp
    try with_reducible rfl
  try simp only [Act.put, List.setIfInBounds_toArray, List.set_cons_zero, List.set_cons_succ]
  refine rgn.Walk.es ?_
  refine rgn.stepE rfl rfl (fun K hK => ?_)
  go_simp
  refine (ref.two1 _ fp).mono ?_
  rintro x w21 ⟨g21, rfl, h21, o21⟩
  refine hK _ _ (Same.only o21 (by have := B2.out.size; omega)) ?_
  clear hK K
  try simp only [Act.put, List.setIfInBounds_toArray, List.set_cons_zero, List.set_cons_succ]
  have P1 := hid (h21.mono_base (show W7.heap.size ≤ _ from (by have := B2.out.size; omega))); have B2 := hid (B2.out.trans (o21.below_nil.mono (by have := B2.out.size; omega)))
  clear h21 o21
  refine rgn.Walk.es ?_
  refine rgn.stepE rfl rfl (fun K hK => ?_)
  go_simp
  refine (ref.two1 _ tp).mono ?_
  rintro x w22 ⟨g22, rfl, h22, o22⟩
  refine hK _ _ (Same.only o22 (by have := B2.out.size; omega)) ?_
  clear hK K
  try simp only [Act.put, List.setIfInBounds_toArray, List.set_cons_zero, List.set_cons_succ]
  have P1 := hid (P1.out.only_nil o22)
  have P2 := hid (h22.mono_base (show W7.heap.size ≤ _ from (by have := B2.out.size; omega))); have B2 := hid (B2.out.trans (o22.below_nil.mono (by have := B2.out.size; omega)))
  clear h22 o22
  refine rgn.Walk.es ?_
  refine rgn.stepE rfl rfl (fun K hK => ?_)
  refine opApp rfl (.tmp 92) (.tmp 95) _ rfl hlp.elemB _ _ (ref.two fp) rfl P1.out (some ⟨g22, 0, none⟩) 2 2 (ref.two tp) rfl (P2.out.rd) (by simp) (by first | (simp [ref.two]; done) | (simp [ref.two]; omega) | omega) (by unfold maxLen; first | (simp [ref.two]; done) | (simp [ref.two]; omega) | omega) (by have := B2.out.size; omega) ?_
  intro v23 w23 hv hg hb
  refine hK _ _ (Same.grown hg (by have := B2.out.size; omega) (fun e => by have := (P1.out.lt _ e).1; omega)) ?_
  clear hK K
  try simp only [Act.put, List.setIfInBounds_toArray, List.set_cons_zero, List.set_cons_succ]
  have B2 := hid (B2.out.grown hg (by have := B2.out.size; omega) (fun k hk => (P1.out.lt k hk).1)); have VB := hid hv
  clear hv hg hb
  refine rgn.Walk.es ?_
  refine rgn.stepE rfl rfl (fun K hK => ?_)
  go_simp
  refine hK _ _ ((Same.refl w.heap.size) _) ?_
  clear hK K
  try simp only [Act.put, List.setIfInBounds_toArray, List.set_cons_zero, List.set_cons_succ]
  refine rgn.Walk.zs (NoPanic.normal ?_)
  clear P1 P2
  go_wp2_with fail
  refine wp_region_noPanic ?_
  refine rgn.regionT (R := Same w.heap.size) (by kernel_rfl) (Same.refl w.heap.size) (Same.trans (g := w.heap.size)) (fun _ _ _ _ _ h => h) (.y 0 (.y 1 (.y 2 (.y 5 (.y 6 (.e 3 (.e 4 (.e 7 (.e 8 (.e 9 .z)))))))))) (by kernel_rfl) (fun W hWd => ?_)
  have HWd := hid hWd; clear hWd
  have B2 := hid (show Below _ _ W from by rw [HWd.out]; exact B2.out.drew)
  have VB := hid (show Own .u8 5 W _ _ _ from by rw [HWd.out]; exact VB.out.drew)
  clear HWd
  refine rgn.Walk.ys (v := ?_) rfl rfl rfl ?_ ?_
  rotate_left 1
  · intro W' hW'
    go_simp
    try with_reducible rfl
  try simp only [Act.put, List.setIfInBounds_toArray, List.set_cons_zero, List.set_cons_succ]
  refine rgn.Walk.ys (v := ?_) rfl rfl rfl ?_ ?_
  rotate_left 1
  · intro W' hW'
    go_simp
    try with_reducible rfl
  try simp only [Act.put, List.setIfInBounds_toArray, List.set_cons_zero, List.set_cons_succ]
  refine rgn.Walk.ys (v := ?_) rfl rfl rfl ?_ ?_
  rotate_left 1
  · intro W' hW'
    have q0 := ((OB.out.same (show Same w.heap.size _ _ from B2.out.block _ hbs)).same hW').cell 4
    go_simp
    try with_reducible rfl
  try simp only [Act.put, List.setIfInBounds_toArray, List.set_cons_zero, List.set_cons_succ]
  refine rgn.Walk.ys (v := ?_) rfl rfl rfl ?_ ?_
  rotate_left 1
  · intro W' hW'
    go_simp
    try with_reducible rfl
  try simp only [Act.put, List.setIfInBounds_toArray, List.set_cons_zero, List.set_cons_succ]
  refine rgn.Walk.ys (v := ?_) rfl rfl rfl ?_ ?_
  rotate_left 1
  · intro W' hW'
    have q0 := ((OB.out.same (show Same w.heap.size _ _ from B2.out.block _ hbs)).same hW').cell 5
    go_simp
    try with_reducible rfl
  try simp only [Act.put, List.setIfInBounds_toArray, List.set_cons_zero, List.set_cons_succ]
  refine rgn.Walk.es ?_
  refine rgn.stepE rfl rfl (fun K hK => ?_)
  go_simp
  refine (ref.four1 _ sq).mono ?_
  rintro x w24 ⟨g24, rfl, h24, o24⟩
  refine hK _ _ (Same.only o24 (by have := B2.out.size; omega)) ?_
  clear hK K
  try simp only [Act.put, List.setIfInBounds_toArray, List.set_cons_zero, List.set_cons_succ]
  have VB := hid (VB.out.only_nil o24)
  have P1 := hid (h24.mono_base (show W7.heap.size ≤ _ from (by have := B2.out.size; omega))); have B2 := hid (B2.out.trans (o24.below_nil.mono (by have := B2.out.size; omega)))
  clear h24 o24
  refine rgn.Walk.es ?_
  refine rgn.stepE rfl rfl (fun K hK => ?_)
  refine opApp rfl (.tmp 97) (.tmp 100) _ rfl hlp.elemB _ _ (ref.two fp ++ ref.two tp) rfl VB.out (some ⟨g24, 0, none⟩) 4 4 (ref.four sq) rfl (P1.out.rd) (by simp) (by first | (simp [ref.two, ref.four]; done) | (simp [ref.two, ref.four]; omega) | omega) (by unfold maxLen; first | (simp [ref.two, ref.four]; done) | (simp [ref.two, ref.four]; omega) | omega) (by have := B2.out.size; omega) ?_
  intro v25 w25 hv hg hb
  refine hK _ _ (Same.grown hg (by have := B2.out.size; omega) (fun e => by have := (VB.out.lt _ e).1; omega)) ?_
  clear hK K
  try simp only [Act.put, List.setIfInBounds_toArray, List.set_cons_zero, List.set_cons_succ]
  have B2 := hid (B2.out.grown hg (by have := B2.out.size; omega) (fun k hk => (VB.out.lt k hk).1)); have VB := hid hv
  clear hv hg hb
  refine rgn.Walk.es ?_
  refine rgn.stepE rfl rfl (fun K hK => ?_)
  go_simp
  refine (ref.four1 _ ac).mono ?_
  rintro x w26 ⟨g26, rfl, h26, o26⟩
  refine hK _ _ (Same.only o26 (by have := B2.out.size; omega)) ?_
  clear hK K
  try simp only [Act.put, List.setIfInBounds_toArray, List.set_cons_zero, List.set_cons_succ]
  have VB := hid (VB.out.only_nil o26)
  have P4 := hid (h26.mono_base (show W7.heap.size ≤ _ from (by have := B2.out.size; omega))); have B2 := hid (B2.out.trans (o26.below_nil.mono (by have := B2.out.size; omega)))
  clear h26 o26
  refine rgn.Walk.es ?_
  refine rgn.stepE rfl rfl (fun K hK => ?_)
  refine opApp rfl (.tmp 101) (.tmp 104) _ rfl hlp.elemB _ _ (ref.two fp ++ ref.two tp ++ ref.four sq) rfl VB.out (some ⟨g26, 0, none⟩) 4 4 (ref.four ac) rfl (P4.out.rd) (by simp) (by first | (simp [ref.two, ref.four]; done) | (simp [ref.two, ref.four]; omega) | omega) (by unfold maxLen; first | (simp [ref.two, ref.four]; done) | (simp [ref.two, ref.four]; omega) | omega) (by have := B2.out.size; omega) ?_
  intro v27 w27 hv hg hb
  refine hK _ _ (Same.grown hg (by have := B2.out.size; omega) (fun e => by have := (VB.out.lt _ e).1; omega)) ?_
  clear hK K
  try simp only [Act.put, List.setIfInBounds_toArray, List.set_cons_zero, List.set_cons_succ]
  have B2 := hid (B2.out.grown hg (by have := B2.out.size; omega) (fun k hk => (VB.out.lt k hk).1)); have VB := hid hv
  clear hv hg hb
  refine rgn.Walk.es ?_
  refine rgn.stepE rfl rfl (fun K hK => ?_)
  go_simp
  refine hK _ _ ((Same.refl w.heap.size) _) ?_
  clear hK K
  try simp only [Act.put, List.setIfInBounds_toArray, List.set_cons_zero, List.set_cons_succ]
  refine rgn.Walk.zs (NoPanic.normal ?_)
  clear P1 P4
  have OBc := hid (OB.out.same (show Same w.heap.size _ _ from B2.out.block _ hbs)); have k0 := OBc.out.cell 0; have k1 := OBc.out.cell 1; have k2 := OBc.out.cell 2; have k3 := OBc.out.cell 3; have k4 := OBc.out.cell 4; have k5 := OBc.out.cell 5; have k6 := OBc.out.cell 6; have k7 := OBc.out.cell 7; have k8 := OBc.out.cell 8; have k9 := OBc.out.cell 9; have k10 := OBc.out.cell 10
  have VL : Hid (Own .u8 5 (w27.alloc (.cells #[.int .u8 112, .int .u8 fl] 5)) W7.heap.size (.slice (some ⟨w27.heap.size, 0, none⟩) 2 2) [112, fl]) := hid (Own.lit .u8 5 w27 W7.heap.size [112, fl] _ 2 rfl rfl (by have := B2.out.size; omega) (by simp [maxLen]) (by intro z hz; simp at hz; apply hlp.u8wf; omega))
  have B2 := hid (B2.out.alloc (by have := B2.out.size; omega) (.cells #[.int .u8 112, .int .u8 fl] 5)); have VB := hid (VB.out.alloc (.cells #[.int .u8 112, .int .u8 fl] 5))
  go_wp2_with (at_builtin; refine wpList_app _ rfl (.tmp 106) (.tmp 116) _ rfl hlp.elemB (W7.heap.size) _ (ref.two fp ++ ref.two tp ++ ref.four sq ++ ref.four ac) rfl ?c50a (some ⟨w27.heap.size, 0, none⟩) 2 2 ([112, fl]) rfl ?c50b ?c50c ?c50d ?c50e ?c50f ?_)
  case c50a => exact VB.out
  case c50b => exact VL.out.rd
  case c50c => simp
  case c50d => first | (simp [ref.two, ref.four]; done) | (simp [ref.two, ref.four]; omega) | omega
  case c50e => unfold maxLen; first | (simp [ref.two, ref.four]; done) | (simp [ref.two, ref.four]; omega) | omega
  case c50f => exact (by have := B2.out.size; omega)
  intro v50 W50 hv hg hb
  have B2 := hid (B2.out.grown hg (by have := B2.out.size; omega) (fun k hk => (VB.out.lt k hk).1)); have VB : Hid (Own .u8 5 W50 W7.heap.size v50 (ref.two fp ++ ref.two tp ++ ref.four sq ++ ref.four ac ++ [112, fl])) := hid (by simpa using hv)
  clear hv hg hb
  clear VL; clear k0 k1 k2 k3 k4 k5 k6 k7 k8 k9 k10
  have OBc := hid (OB.out.same (show Same w.heap.size _ _ from B2.out.block _ hbs)); have k0 := OBc.out.cell 0; have k1 := OBc.out.cell 1; have k2 := OBc.out.cell 2; have k3 := OBc.out.cell 3; have k4 := OBc.out.cell 4; have k5 := OBc.out.cell 5; have k6 := OBc.out.cell 6; have k7 := OBc.out.cell 7; have k8 := OBc.out.cell 8; have k9 := OBc.out.cell 9; have k10 := OBc.out.cell 10
  go_wp2_with fail
  refine (ref.two1 _ wi).mono ?_
  rintro x w51 ⟨g51, rfl, h51, o51⟩
  clear k0 k1 k2 k3 k4 k5 k6 k7 k8 k9 k10
  have VB := hid (VB.out.only_nil o51); have P1 := hid (h51.mono_base (show W7.heap.size ≤ _ from (by have := B2.out.size; omega))); have B2 := hid (B2.out.trans (o51.below_nil.mono (by have := B2.out.size; omega))); clear h51 o51
  go_wp2_with (at_builtin; refine wpList_app _ rfl (.tmp 118) (.tmp 121) _ rfl hlp.elemB (W7.heap.size) _ (ref.two fp ++ ref.two tp ++ ref.four sq ++ ref.four ac ++ [112, fl]) rfl ?c52a (some ⟨g51, 0, none⟩) 2 2 (ref.two wi) rfl ?c52b ?c52c ?c52d ?c52e ?c52f ?_)
  case c52a => exact VB.out
  case c52b => exact P1.out.rd
  case c52c => simp
  case c52d => first | (simp [ref.two, ref.four]; done) | (simp [ref.two, ref.four]; omega) | omega
  case c52e => unfold maxLen; first | (simp [ref.two, ref.four]; done) | (simp [ref.two, ref.four]; omega) | omega
  case c52f => exact (by have := B2.out.size; omega)
  intro v52 W52 hv hg hb
  have B2 := hid (B2.out.grown hg (by have := B2.out.size; omega) (fun k hk => (VB.out.lt k hk).1)); have VB : Hid (Own .u8 5 W52 W7.heap.size v52 (ref.two fp ++ ref.two tp ++ ref.four sq ++ ref.four ac ++ [112, fl] ++ ref.two wi)) := hid (by simpa using hv)
  clear hv hg hb
  have VL : Hid (Own .u8 5 (W52.alloc (.cells #[.int .u8 0, .int .u8 0, .int .u8 0, .int .u8 0] 5)) W7.heap.size (.slice (some ⟨W52.heap.size, 0, none⟩) 4 4) [0, 0, 0, 0]) := hid (Own.lit .u8 5 W52 W7.heap.size [0, 0, 0, 0] _ 4 rfl rfl (by have := B2.out.size; omega) (by simp [maxLen]) (by intro z hz; simp at hz; apply hlp.u8wf; omega))
  have B2 := hid (B2.out.alloc (by have := B2.out.size; omega) (.cells #[.int .u8 0, .int .u8 0, .int .u8 0, .int .u8 0] 5)); have VB := hid (VB.out.alloc (.cells #[.int .u8 0, .int .u8 0, .int .u8 0, .int .u8 0] 5))
  go_wp2_with (at_builtin; refine wpList_app _ rfl (.tmp 122) (.tmp 123) _ rfl hlp.elemB (W7.heap.size) _ (ref.two fp ++ ref.two tp ++ ref.four sq ++ ref.four ac ++ [112, fl] ++ ref.two wi) rfl ?c53a (some ⟨W52.heap.size, 0, none⟩) 4 4 ([0, 0, 0, 0]) rfl ?c53b ?c53c ?c53d ?c53e ?c53f ?_)
  case c53a => exact VB.out
  case c53b => exact VL.out.rd
  case c53c => simp
  case c53d => first | (simp [ref.two, ref.four]; done) | (simp [ref.two, ref.four]; omega) | omega
  case c53e => unfold maxLen; first | (simp [ref.two, ref.four]; done) | (simp [ref.two, ref.four]; omega) | omega
  case c53f => exact (by have := B2.out.size; omega)
  intro v53 W53 hv hg hb
  have B2 := hid (B2.out.grown hg (by have := B2.out.size; omega) (fun k hk => (VB.out.lt k hk).1)); have VB : Hid (Own .u8 5 W53 W7.heap.size v53 (ref.two fp ++ ref.two tp ++ ref.four sq ++ ref.four ac ++ [112, fl] ++ ref.two wi ++ [0, 0, 0, 0])) := hid (by simpa using hv)
  clear hv hg hb
  clear VL P1
  go_wp2_with fail
  refine wp_region_noPanic ?_
  refine rgn.regionT (R := Same w.heap.size) (by kernel_rfl) (Same.refl w.heap.size) (Same.trans (g := w.heap.size)) (fun _ _ _ _ _ h => h) (.y 0 (.y 1 (.y 3 (.y 4 (.e 2 (.e 5 (.e 6 .z))))))) (by kernel_rfl) (fun W hWd => ?_)
  have HWd := hid hWd; clear hWd
  have B2 := hid (show Below _ _ W from by rw [HWd.out]; exact B2.out.drew)
  have VB := hid (show Own .u8 5 W _ _ _ from by rw [HWd.out]; exact VB.out.drew)
  clear HWd
  refine rgn.Walk.ys (v := ?_) rfl rfl rfl ?_ ?_
  rotate_left 1
  · intro W' hW'
    go_simp
    try with_reducible rfl
  try simp only [Act.put, List.setIfInBounds_toArray, List.set_cons_zero, List.set_cons_succ]
  refine rgn.Walk.ys (v := ?_) rfl rfl rfl ?_ ?_
  rotate_left 1
  · intro W' hW'
    go_simp
    try with_reducible rfl
  try simp only [Act.put, List.setIfInBounds_toArray, List.set_cons_zero, List.set_cons_succ]
  refine rgn.Walk.ys (v := ?_) rfl rfl rfl ?_ ?_
  rotate_left 1
  · intro W' hW'
    go_simp
    try with_reducible rfl
  try simp only [Act.put, List.setIfInBounds_toArray, List.set_cons_zero, List.set_cons_succ]
  refine rgn.Walk.ys (v := ?_) rfl rfl rfl ?_ ?_
  rotate_left 1
  · intro W' hW'
    have q0 := ((OB.out.same (show Same w.heap.size _ _ from B2.out.block _ hbs)).same hW').cell 10
    go_simp
    try with_reducible rfl
  try simp only [Act.put, List.setIfInBounds_toArray, List.set_cons_zero, List.set_cons_succ]
  refine rgn.Walk.es ?_
  refine rgn.stepE rfl rfl (fun K hK => ?_)
  refine opApp rfl (.tmp 125) (.tmp 126) _ rfl hlp.elemB _ _ (ref.two fp ++ ref.two tp ++ ref.four sq ++ ref.four ac ++ [112, fl] ++ ref.two wi ++ [0, 0, 0, 0]) rfl VB.out A4 8 c4 ([2, 4, ms / 256 % 256, ms % 256, 1, 3, 3, sc]) rfl (R6.out.below B2.out (Nat.le_refl _)) (N6.out) (by first | (simp [ref.two, ref.four]; done) | (simp [ref.two, ref.four]; omega) | omega) (by unfold maxLen; first | (simp [ref.two, ref.four]; done) | (simp [ref.two, ref.four]; omega) | omega) (by have := B2.out.size; omega) ?_
  intro v28 w28 hv hg hb
  refine hK _ _ (Same.grown hg (by have := B2.out.size; omega) (fun e => by have := (VB.out.lt _ e).1; omega)) ?_
  clear hK K
  try simp only [Act.put, List.setIfInBounds_toArray, List.set_cons_zero, List.set_cons_succ]
  have B2 := hid (B2.out.grown hg (by have := B2.out.size; omega) (fun k hk => (VB.out.lt k hk).1)); have VB := hid hv
  clear hv hg hb
  refine rgn.Walk.es ?_
  refine rgn.stepE rfl rfl (fun K hK => ?_)
  refine opApp rfl (.tmp 127) (.tmp 129) _ rfl hlp.elemB _ _ (ref.two fp ++ ref.two tp ++ ref.four sq ++ ref.four ac ++ [112, fl] ++ ref.two wi ++ [0, 0, 0, 0] ++ [2, 4, ms / 256 % 256, ms % 256, 1, 3, 3, sc]) rfl VB.out A n c (l) rfl ((HL.out.below B.out (Nat.le_refl _)).below B2.out (Nat.le_refl _)) (HC.out) (by first | (simp [ref.two, ref.four]; done) | (simp [ref.two, ref.four]; omega) | omega) (by unfold maxLen; first | (simp [ref.two, ref.four]; done) | (simp [ref.two, ref.four]; omega) | omega) (by have := B2.out.size; omega) ?_
  intro v29 w29 hv hg hb
  refine hK _ _ (Same.grown hg (by have := B2.out.size; omega) (fun e => by have := (VB.out.lt _ e).1; omega)) ?_
  clear hK K
  try simp only [Act.put, List.setIfInBounds_toArray, List.set_cons_zero, List.set_cons_succ]
  have B2 := hid (B2.out.grown hg (by have := B2.out.size; omega) (fun k hk => (VB.out.lt k hk).1)); have VB := hid hv
  clear hv hg hb
  refine rgn.Walk.es ?_
  refine rgn.stepE rfl rfl (fun K hK => ?_)
  go_simp
  refine hK _ _ ((Same.refl w.heap.size) _) ?_
  clear hK K
  try simp only [Act.put, List.setIfInBounds_toArray, List.set_cons_zero, List.set_cons_succ]
  refine rgn.Walk.zs (NoPanic.normal ?_)
  have OBc := hid (OB.out.same (show Same w.heap.size _ _ from B2.out.block _ hbs)); have k0 := OBc.out.cell 0; have k1 := OBc.out.cell 1; have k2 := OBc.out.cell 2; have k3 := OBc.out.cell 3; have k4 := OBc.out.cell 4; have k5 := OBc.out.cell 5; have k6 := OBc.out.cell 6; have k7 := OBc.out.cell 7; have k8 := OBc.out.cell 8; have k9 := OBc.out.cell 9; have k10 := OBc.out.cell 10
  have HGD := HG.out
  unfold Good at HGD
  have HB0 : Hid (ref.two fp ++ ref.two tp ++ ref.four sq ++ ref.four ac ++ [112, fl] ++ ref.two wi ++ [0, 0, 0, 0] ++ [2, 4, ms / 256 % 256, ms % 256, 1, 3, 3, sc] ++ l = body fp tp sq ac fl wi 0 (opt ms sc) l) := hid (by
    have j1 : fl % 256 = fl := by omega
    have j2 : sc % 256 = sc := by omega
    unfold opt
    simp [ref.two, ref.four, body, j1, hms, hsc, j2])
  have HOL : Hid ((opt ms sc).length = 8) := hid (by unfold opt; simp [hms, hsc])
  clear HGD
  have VB : Hid (Own .u8 5 _ W7.heap.size _ (body fp tp sq ac fl wi 0 (opt ms sc) l)) := hid (HB0.out ▸ VB.out)
  have hbl : (body fp tp sq ac fl wi 0 (opt ms sc) l).length = (28 + n) := by rw [body_len, HOL.out, HLen.out]
  have HBL := hid hbl
  obtain ⟨g, cap, e2⟩ := VB.out.some_form (by rw [hbl]; omega)
  rw [hbl] at e2
  subst e2
  have HSM : Hid (oct.sumF (psd.psd fr to 6 ((28 + n) : Nat) ++ body fp tp sq ac fl wi 0 (opt ms sc) l) = sumS fr to sq ac fp tp fl wi (opt ms sc) l) := hid (by
    unfold sumS
    rw [HOL.out, HLen.out]
    rfl)
  have hsb : 0 ≤ sumS fr to sq ac fp tp fl wi (opt ms sc) l ∧ sumS fr to sq ac fp tp fl wi (opt ms sc) l ≤ 65535 := by
    rw [← HSM.out]
    have hw := VB.out.2
    have := oct.F_bd (oct.ws (psd.psd fr to 6 ((28 + n) : Nat) ++ body fp tp sq ac fl wi 0 (opt ms sc) l)) (oct.ws_bd _ (fun z hz => by
      rcases List.mem_append.1 hz with h | h
      · exact psd.psd_wf _ _ _ _ z h
      · exact u8Bd (hw z h))).1
    unfold oct.sumF; omega
  have HSB := hid hsb
  have HE : Hid (encB fr to sq ac fp tp fl wi ms sc l = ((body fp tp sq ac fl wi 0 (opt ms sc) l).set 16 (sumS fr to sq ac fp tp fl wi (opt ms sc) l / 256)).set 17 (sumS fr to sq ac fp tp fl wi (opt ms sc) l % 256)) := hid (by
    unfold encB
    generalize sumS fr to sq ac fp tp fl wi (opt ms sc) l = s at *
    have : s / 256 % 256 = s / 256 := by omega
    simp [body, this])
  clear hsb hbl
  go_wp2_with fail
  refine (psd.summed1 _ fr to 6 (some ⟨g, 0, none⟩) (28 + n) cap _ VB.out.rd (by omega) (by omega)).mono ?_
  rintro x w70 ⟨rfl, o70⟩
  rw [HSM.out]
  have VB := hid (VB.out.only_nil o70); have B2 := hid (B2.out.trans (o70.below_nil.mono (by have := B2.out.size; omega))); clear o70
  clear k0 k1 k2 k3 k4 k5 k6 k7 k8 k9 k10
  obtain ⟨hs1, hs2⟩ := HSB.out
  generalize sumS fr to sq ac fp tp fl wi (opt ms sc) l = s at *
  have c2 := VB.out.cellD 16 (by omega)
  have f2 := VB.out.frozen 16
  have V4 := hid (VB.out.set 16 (s / 256) (hlp.u8wf (by omega)))
  have c3 := V4.out.cellD 17 (by omega)
  have f3 := V4.out.frozen 17
  have V5 := hid (V4.out.set 17 (s % 256) (hlp.u8wf (by omega)))
  have hlow := VB.out.base_le.1
  have hlow2 : w.heap.size ≤ g := by have := QO.out.size; omega
  have Q4 := hid ((Only.of_below (S := []) (show Below w.heap.size w w70 from B.out.trans (B2.out.mono QO.out.size))))
  have Q5 := hid ((Q4.out.setCell (p := ⟨g, 16, none⟩) (Or.inr hlow2) (.int .u8 (s / 256))).setCell (p := ⟨g, 17, none⟩) (Or.inr hlow2) (.int .u8 (s % 256)))
  have hi16 : (16 : Int) < 28 + (n : Int) := by omega
  have hi17 : (17 : Int) < 28 + (n : Int) := by omega
  go_wp2
  go_ret2
  exact ⟨_, rfl, by rw [HE.out]; exact V5.out.mono_base (by have := QO.out.size; omega), Q5.out⟩
end Go.Proofs.Ytkpdgfimibmoeaa.seg
