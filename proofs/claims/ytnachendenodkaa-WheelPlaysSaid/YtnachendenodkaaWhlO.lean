/-
  Chapter 3 (wheel): the law WheelPlays, by a walk of its text. Conditions: none but those typed.
-/
import Derived.Test.YtnachendenodkaaWhlK
import Derived.Test.YtnachendenodkaaOplW
namespace Go.Proofs.Ytnachendenodkaa.whl
set_option linter.unusedVariables false
set_option linter.unusedSimpArgs false
open Go.ChangeShapes Go.WideShapes Go.ChangeAt Go.RowKit Go.IntWalk Go.Lib
theorem doesAny (w0 w : World) (g ge : Nat) (vs : List Value) (A : Option Addr) (c : Nat) (L D : List Tm) (hj : JI w0 w g ge vs A c L D) (hp : D.Perm L) (hs : Srt D) (kd key a : Int) (hk : (Lit.int .i64 key).wf = true) :
    Calls Try.prog 9 #[.pointer (some ⟨g, 0, none⟩), .pointer (some ⟨ge, 0, none⟩), .agg #[.int .i64 kd, .int .i64 key, .int .i64 a]] w fun x w' => x = .returned (.bool true) ∧ After w0 g ge w' := by
  by_cases h1 : kd = 1
  · subst h1; exact does1 w0 w g ge vs A c L D hj hp hs key a hk
  · by_cases h2 : kd = 2
    · subst h2; exact does2 w0 w g ge vs A c L D hj hp hs key a hk
    · by_cases h3 : kd = 3
      · subst h3; exact does3 w0 w g ge vs A c L D hj hp hs key a hk
      · by_cases h4 : kd = 4
        · subst h4; exact does4 w0 w g ge vs A c L D hj hp hs key a hk
        · exact does5 w0 w g ge vs A c L D hj hp hs kd key a hk ⟨h1, h2, h3, h4⟩
set_option maxRecDepth 100000 in
set_option maxHeartbeats 8000000 in
theorem plays (w : World) (A : Option Addr) (len c : Nat) (V0 V1 V2 : Nat → Int) (h : OplW w A len V0 V1 V2) : Calls Try.prog 3 #[.slice A len c] w (fun e w' => e = .returned (.bool true) ∧ Only [] w w') := by
  have hz := zeroW
  have H := hid h; clear h
  have HI0 : Hid (After w w.heap.size (w.heap.size + 1) ((w.alloc (.cells newC 27)).alloc (.cells #[.slice none 0 0] 31))) := hid ⟨vs0, none, 0, [], [], ⟨(newW w).only_nil ((Only.refl _ _).alloc _), ⟨by simpa using Ob.new (w.alloc (.cells newC 27)) 31 #[.slice none 0 0], RdS.zero _ _ _, by simp, by unfold maxLen; omega, fun _ => rfl, .inl rfl, fun b off e => (by cases e), fun b off e => (by cases e), by simp⟩, ((Only.refl _ _).alloc _).alloc _, Nat.le_refl _, Nat.le_succ _, fun b hb => absurd hb (vs0_blocks b), fun b off e => (by cases e), fun b off e => (by cases e), fun t ht => (by cases ht)⟩, List.Perm.refl _, List.Pairwise.nil⟩
  go_enter Try.func3, Try.ntmps3
  go_wp2_with fail
  generalize (w.alloc (.cells newC 27)).alloc (.cells #[.slice none 0 0] 31) = W0 at *
  go_loopw [5] (fun i wr => ∃ j : Nat, j ≤ min len 400 ∧ i = .int .i64 j ∧ Hid (After w w.heap.size (w.heap.size + 1) wr)) (fun i _ => 400 - (RowKit.intOf i).toNat)
  case atStart => exact ⟨0, by omega, rfl, HI0⟩
  case round =>
    clear HI0
    obtain ⟨j, hj, rfl, HL⟩ := hrel
    obtain ⟨vs, A1, c1, L, D, hji, hp, hs⟩ := HL.out
    have HJ := hid hji; have HP := hid hp; have HS := hid hs
    clear HL hji hp hs
    by_cases hlt : j < len
    · by_cases h4 : j < 400
      · obtain ⟨b, off, rfl, hb, hc⟩ := H.out.cells (by omega)
        obtain ⟨q0, q1, q2⟩ := hc j hlt
        have hwf := H.out.rd j hlt
        clear hc
        generalize V0 j = kd at *
        generalize V1 j = key at *
        generalize V2 j = a at *
        have oj := HJ.out.o
        have HQ := hid (show ∀ W, Only [] wr W → (W.cell? ⟨b, off + j * 3, none⟩ = some (.int .i64 kd) ∧ W.cell? ⟨b, off + j * 3 + 1, none⟩ = some (.int .i64 key) ∧ W.cell? ⟨b, off + j * 3 + 2, none⟩ = some (.int .i64 a)) from fun W o => ⟨(oj.trans o).keep q0, (oj.trans o).keep q1, (oj.trans o).keep q2⟩)
        have HDA := hid (fun W vs A c L D (hj : JI w W w.heap.size (w.heap.size + 1) vs A c L D) (hp : D.Perm L) (hs : Srt D) => doesAny w W _ _ vs A c L D hj hp hs kd key a (by first | exact hwf.2.1 | exact hwf.1))
        have HDB := hid (fun W vs A c L D (hj : JI w W w.heap.size (w.heap.size + 1) vs A c L D) (hp : D.Perm L) (hs : Srt D) => doesAny w W _ _ vs A c L D hj hp hs 5 0 0 (by decide))
        clear q0 q1 q2 hwf oj
        go_wp2_with fail
        refine wp_region_noPanic ?_
        refine rgn.regionT (R := AnyW) (by kernel_rfl) (fun _ => AnyW.any _ _) (fun _ _ _ _ _ => AnyW.any _ _) (fun _ _ _ _ _ h => h) (.y 0 (.y 1 (.y 2 (.y 3 (.y 4 (.e 5 (.e 6 (.y 7 (.y 8 (.y 9 (.y 11 (.y 12 (.y 13 (.b 10 14 (.e 14 (.y 15 (.y 16 (.y 17 (.y 18 (.y 19 (.y 20 (.y 21 (.e 22 (.y 23 (.y 24 .z))))))))))) (.y 15 (.e 10 (.y 16 (.y 17 (.y 18 (.y 19 (.y 20 (.y 21 (.e 22 (.y 23 (.y 24 .z))))))))))))))))))))))))) (by kernel_rfl) (fun W hWd => ?_)
        have HWd := hid hWd; clear hWd
        have HJ := hid (HJ.out.only_nil (Only.eq_drew (Only.refl _ _) HWd.out))
        have HOW : Hid (Only [] wr W) := hid (Only.eq_drew (Only.refl _ _) HWd.out)
        clear HWd
        refine rgn.Walk.ys (v := ?_) rfl rfl rfl ?_ ?_
        rotate_left 1
        · intro W' hW'
          go_simp
          try with_reducible rfl
        try simp only [Act.put, List.setIfInBounds_toArray, List.set_cons_zero, List.set_cons_succ]
        refine rgn.Walk.ys (v := ?_) rfl rfl rfl ?_ ?_
        rotate_left 1
        · intro W' hW'
          go_simp
          try with_reducible rfl
        try simp only [Act.put, List.setIfInBounds_toArray, List.set_cons_zero, List.set_cons_succ]
        refine rgn.Walk.ys (v := ?_) rfl rfl rfl ?_ ?_
        rotate_left 1
        · intro W' hW'
          go_simp
          try with_reducible rfl
        try simp only [Act.put, List.setIfInBounds_toArray, List.set_cons_zero, List.set_cons_succ]
        refine rgn.Walk.ys (v := ?_) rfl rfl rfl ?_ ?_
        rotate_left 1
        · intro W' hW'
          go_simp
          try with_reducible rfl
        try simp only [Act.put, List.setIfInBounds_toArray, List.set_cons_zero, List.set_cons_succ]
        refine rgn.Walk.ys (v := ?_) rfl rfl rfl ?_ ?_
        rotate_left 1
        · intro W' hW'
          go_simp
          try with_reducible rfl
        try simp only [Act.put, List.setIfInBounds_toArray, List.set_cons_zero, List.set_cons_succ]
        refine rgn.Walk.es ?_
        refine rgn.stepE rfl rfl (fun K hK => ?_)
        obtain ⟨q0, q1, q2⟩ := HQ.out W HOW.out
        go_simp
        refine hK _ _ (AnyW.any _ _) ?_
        clear hK K q0 q1 q2
        try simp only [Act.put, List.setIfInBounds_toArray, List.set_cons_zero, List.set_cons_succ]
        refine rgn.Walk.es ?_
        refine rgn.stepE rfl rfl (fun K hK => ?_)
        go_simp
        refine (HDA.out _ _ _ _ _ _ HJ.out HP.out HS.out).mono ?_
        rintro x w4 ⟨rfl, vs4, A4, c4, L4, D4, j4, p4, s4⟩
        refine hK _ _ (AnyW.any _ _) ?_
        clear hK K
        try simp only [Act.put, List.setIfInBounds_toArray, List.set_cons_zero, List.set_cons_succ]
        have HJ := hid j4; have HP := hid p4; have HS := hid s4; clear j4 p4 s4
        refine rgn.Walk.ys (v := ?_) rfl rfl rfl ?_ ?_
        rotate_left 1
        · intro W' hW'
          go_simp
          try with_reducible rfl
        try simp only [Act.put, List.setIfInBounds_toArray, List.set_cons_zero, List.set_cons_succ]
        refine rgn.Walk.ys (v := ?_) rfl rfl rfl ?_ ?_
        rotate_left 1
        · intro W' hW'
          go_simp
          try with_reducible rfl
        try simp only [Act.put, List.setIfInBounds_toArray, List.set_cons_zero, List.set_cons_succ]
        refine rgn.Walk.ys (v := ?_) rfl rfl rfl ?_ ?_
        rotate_left 1
        · intro W' hW'
          go_simp
          try with_reducible rfl
        try simp only [Act.put, List.setIfInBounds_toArray, List.set_cons_zero, List.set_cons_succ]
        refine rgn.Walk.ys (v := ?_) rfl rfl rfl ?_ ?_
        rotate_left 1
        · intro W' hW'
          go_simp
          try with_reducible rfl
        try simp only [Act.put, List.setIfInBounds_toArray, List.set_cons_zero, List.set_cons_succ]
        refine rgn.Walk.ys (v := ?_) rfl rfl rfl ?_ ?_
        rotate_left 1
        · intro W' hW'
          go_simp
          try with_reducible rfl
        try simp only [Act.put, List.setIfInBounds_toArray, List.set_cons_zero, List.set_cons_succ]
        refine rgn.Walk.ys (v := ?_) rfl rfl rfl ?_ ?_
        rotate_left 1
        · intro W' hW'
          go_simp
          try with_reducible rfl
        try simp only [Act.put, List.setIfInBounds_toArray, List.set_cons_zero, List.set_cons_succ]
        refine rgn.Walk.bs ?_ ?_
        · refine rgn.stepE rfl rfl (fun K hK => ?_)
          go_simp
          refine (lenL _ _ _ _ HJ.out.v).mono ?_
          rintro x w5 ⟨rfl, o5⟩
          refine hK _ _ (AnyW.any _ _) ?_
          clear hK K
          try simp only [Act.put, List.setIfInBounds_toArray, List.set_cons_zero, List.set_cons_succ]
          have HJ := hid (HJ.out.only_nil o5); clear o5
          refine rgn.Walk.es ?_
          refine rgn.stepE rfl rfl (fun K hK => ?_)
          have q0 := HJ.out.d.ob.cell 0
          go_simp
          refine hK _ _ (AnyW.any _ _) ?_
          clear hK K q0
          try simp only [Act.put, List.setIfInBounds_toArray, List.set_cons_zero, List.set_cons_succ]
          refine rgn.Walk.ys (v := ?_) rfl rfl rfl ?_ ?_
          rotate_left 1
          · intro W' hW'
            go_simp
            try with_reducible rfl
          try simp only [Act.put, List.setIfInBounds_toArray, List.set_cons_zero, List.set_cons_succ]
          refine rgn.Walk.ys (v := ?_) rfl rfl rfl ?_ ?_
          rotate_left 1
          · intro W' hW'
            have pl := HP.out.length_eq
            go_simp
            try with_reducible rfl
          try simp only [Act.put, List.setIfInBounds_toArray, List.set_cons_zero, List.set_cons_succ]
          refine rgn.Walk.ys (v := ?_) rfl rfl rfl ?_ ?_
          rotate_left 1
          · intro W' hW'
            go_simp
            try with_reducible rfl
          try simp only [Act.put, List.setIfInBounds_toArray, List.set_cons_zero, List.set_cons_succ]
          refine rgn.Walk.ys (v := ?_) rfl rfl rfl ?_ ?_
          rotate_left 1
          · intro W' hW'
            go_simp
            try with_reducible rfl
          try simp only [Act.put, List.setIfInBounds_toArray, List.set_cons_zero, List.set_cons_succ]
          refine rgn.Walk.ys (v := ?_) rfl rfl rfl ?_ ?_
          rotate_left 1
          · intro W' hW'
            go_simp
            try with_reducible rfl
          try simp only [Act.put, List.setIfInBounds_toArray, List.set_cons_zero, List.set_cons_succ]
          refine rgn.Walk.ys (v := ?_) rfl rfl rfl ?_ ?_
          rotate_left 1
          · intro W' hW'
            go_simp
            try with_reducible rfl
          try simp only [Act.put, List.setIfInBounds_toArray, List.set_cons_zero, List.set_cons_succ]
          refine rgn.Walk.ys (v := ?_) rfl rfl rfl ?_ ?_
          rotate_left 1
          · intro W' hW'
            go_simp
            try with_reducible rfl
          try simp only [Act.put, List.setIfInBounds_toArray, List.set_cons_zero, List.set_cons_succ]
          refine rgn.Walk.es ?_
          refine rgn.stepE rfl rfl (fun K hK => ?_)
          go_simp
          refine (HDB.out _ _ _ _ _ _ HJ.out HP.out HS.out).mono ?_
          rintro x w6 ⟨rfl, vs6, A6, c6, L6, D6, j6, p6, s6⟩
          refine hK _ _ (AnyW.any _ _) ?_
          clear hK K
          try simp only [Act.put, List.setIfInBounds_toArray, List.set_cons_zero, List.set_cons_succ]
          have HJ := hid j6; have HP := hid p6; have HS := hid s6; clear j6 p6 s6
          refine rgn.Walk.ys (v := ?_) rfl rfl rfl ?_ ?_
          rotate_left 1
          · intro W' hW'
            go_simp
            try with_reducible rfl
          try simp only [Act.put, List.setIfInBounds_toArray, List.set_cons_zero, List.set_cons_succ]
          refine rgn.Walk.ys (v := ?_) rfl rfl rfl ?_ ?_
          rotate_left 1
          · intro W' hW'
            go_simp
            try with_reducible rfl
          try simp only [Act.put, List.setIfInBounds_toArray, List.set_cons_zero, List.set_cons_succ]
          refine rgn.Walk.zs (NoPanic.normal ?_)
          have HL9 : Hid (After w w.heap.size (w.heap.size + 1) w6) := hid ⟨_, _, _, _, _, HJ.out, HP.out, HS.out⟩
          clear HJ HP HS
          go_wp2
          go_roundw
          case rel => exact ⟨j + 1, by omega, by go_num, HL9⟩
          case measure => simp [RowKit.intOf]; omega
        · refine rgn.stepE rfl rfl (fun K hK => ?_)
          have q0 := HJ.out.d.ob.cell 0
          go_simp
          refine hK _ _ (AnyW.any _ _) ?_
          clear hK K q0
          try simp only [Act.put, List.setIfInBounds_toArray, List.set_cons_zero, List.set_cons_succ]
          refine rgn.Walk.ys (v := ?_) rfl rfl rfl ?_ ?_
          rotate_left 1
          · intro W' hW'
            go_simp
            try with_reducible rfl
          try simp only [Act.put, List.setIfInBounds_toArray, List.set_cons_zero, List.set_cons_succ]
          refine rgn.Walk.es ?_
          refine rgn.stepE rfl rfl (fun K hK => ?_)
          go_simp
          refine (lenL _ _ _ _ HJ.out.v).mono ?_
          rintro x w5 ⟨rfl, o5⟩
          refine hK _ _ (AnyW.any _ _) ?_
          clear hK K
          try simp only [Act.put, List.setIfInBounds_toArray, List.set_cons_zero, List.set_cons_succ]
          have HJ := hid (HJ.out.only_nil o5); clear o5
          refine rgn.Walk.ys (v := ?_) rfl rfl rfl ?_ ?_
          rotate_left 1
          · intro W' hW'
            have pl := HP.out.length_eq
            go_simp
            try with_reducible rfl
          try simp only [Act.put, List.setIfInBounds_toArray, List.set_cons_zero, List.set_cons_succ]
          refine rgn.Walk.ys (v := ?_) rfl rfl rfl ?_ ?_
          rotate_left 1
          · intro W' hW'
            go_simp
            try with_reducible rfl
          try simp only [Act.put, List.setIfInBounds_toArray, List.set_cons_zero, List.set_cons_succ]
          refine rgn.Walk.ys (v := ?_) rfl rfl rfl ?_ ?_
          rotate_left 1
          · intro W' hW'
            go_simp
            try with_reducible rfl
          try simp only [Act.put, List.setIfInBounds_toArray, List.set_cons_zero, List.set_cons_succ]
          refine rgn.Walk.ys (v := ?_) rfl rfl rfl ?_ ?_
          rotate_left 1
          · intro W' hW'
            go_simp
            try with_reducible rfl
          try simp only [Act.put, List.setIfInBounds_toArray, List.set_cons_zero, List.set_cons_succ]
          refine rgn.Walk.ys (v := ?_) rfl rfl rfl ?_ ?_
          rotate_left 1
          · intro W' hW'
            go_simp
            try with_reducible rfl
          try simp only [Act.put, List.setIfInBounds_toArray, List.set_cons_zero, List.set_cons_succ]
          refine rgn.Walk.ys (v := ?_) rfl rfl rfl ?_ ?_
          rotate_left 1
          · intro W' hW'
            go_simp
            try with_reducible rfl
          try simp only [Act.put, List.setIfInBounds_toArray, List.set_cons_zero, List.set_cons_succ]
          refine rgn.Walk.es ?_
          refine rgn.stepE rfl rfl (fun K hK => ?_)
          go_simp
          refine (HDB.out _ _ _ _ _ _ HJ.out HP.out HS.out).mono ?_
          rintro x w6 ⟨rfl, vs6, A6, c6, L6, D6, j6, p6, s6⟩
          refine hK _ _ (AnyW.any _ _) ?_
          clear hK K
          try simp only [Act.put, List.setIfInBounds_toArray, List.set_cons_zero, List.set_cons_succ]
          have HJ := hid j6; have HP := hid p6; have HS := hid s6; clear j6 p6 s6
          refine rgn.Walk.ys (v := ?_) rfl rfl rfl ?_ ?_
          rotate_left 1
          · intro W' hW'
            go_simp
            try with_reducible rfl
          try simp only [Act.put, List.setIfInBounds_toArray, List.set_cons_zero, List.set_cons_succ]
          refine rgn.Walk.ys (v := ?_) rfl rfl rfl ?_ ?_
          rotate_left 1
          · intro W' hW'
            go_simp
            try with_reducible rfl
          try simp only [Act.put, List.setIfInBounds_toArray, List.set_cons_zero, List.set_cons_succ]
          refine rgn.Walk.zs (NoPanic.normal ?_)
          have HL9 : Hid (After w w.heap.size (w.heap.size + 1) w6) := hid ⟨_, _, _, _, _, HJ.out, HP.out, HS.out⟩
          clear HJ HP HS
          go_wp2
          go_roundw
          case rel => exact ⟨j + 1, by omega, by go_num, HL9⟩
          case measure => simp [RowKit.intOf]; omega
      · go_wp2_with fail
        refine (known1 _).mono ?_
        rintro x w9 ⟨rfl, o9⟩
        have Q9 := hid (HJ.out.o.trans o9); clear o9
        go_wp2_with fail
        go_ret
        exact ⟨rfl, Q9.out⟩
    · go_wp2_with fail
      refine (known1 _).mono ?_
      rintro x w9 ⟨rfl, o9⟩
      have Q9 := hid (HJ.out.o.trans o9); clear o9
      go_wp2_with fail
      go_ret
      exact ⟨rfl, Q9.out⟩
end Go.Proofs.Ytnachendenodkaa.whl
