/-
  Chapter 23 (lease): the document's client: Hear of grants and refusals, by a walk of its text. Conditions: none but those typed.
-/
import Derived.Test.YtdpmjghdmpaehaaLqB
import Derived.Test.YtdpmjghdmpaehaaArg
namespace Go.Proofs.Ytdpmjghdmpaehaa.lp
set_option linter.unusedVariables false
set_option linter.unusedSimpArgs false
open Go.ChangeShapes Go.WideShapes Go.ChangeAt Go.RowKit Go.IntWalk Go.Lib
def Mc.dgranted (s : Mc) (l : Lm) (yo sv now draw : Int) : Mc × List Lm := if l.ty = 5 ∧ l.yo = yo then (s.bound l sv now, []) else if l.ty = 6 then (s.dbegin now draw, [(s.dbegin now draw).sent 1 0 0]) else (s, [])
set_option maxRecDepth 100000 in
set_option maxHeartbeats 8000000 in
theorem hearD2 (w : World) (m : Nat) (T : TypeId) (tl : List Value) (s : Mc) (l : Lm) (now draw : Int) (hO : Ob w m T (s.cs tl)) (hn : Tk now) (h1 : l.op = 2) (h2 : l.id = s.id) (h3 : macEq l s = true) (hs : s.st = 2) :
    Calls Try.prog 20 #[.pointer (some ⟨m, 0, none⟩), .agg l.cs, .int .i64 now, .int .i64 draw] w (StepE m T tl (s.dgranted l s.of.yo s.of.sv now draw).1 (s.dgranted l s.of.yo s.of.sv now draw).2 w) := by
  obtain ⟨b, hb⟩ : ∃ b, w.heap.size = b := ⟨_, rfl⟩
  obtain ⟨W1, hW1⟩ : ∃ W1, w.alloc (.cells l.cs 27) = W1 := ⟨_, rfl⟩
  have OB : Hid (Ob W1 b 27 l.cs) := hid (by rw [← hW1, ← hb]; exact Ob.new _ _ _)
  have o1 : Only [] w W1 := by rw [← hW1]; exact (Only.refl [] w).alloc _
  have OM := hid (hO.only o1 (by simp))
  have HN : Hid (m ≠ b) := hid (by have := hO.lt; omega)
  have HBM : Hid (b ∉ [m]) := hid (by have := hO.lt; simp; omega)
  have QM : Hid (Only [m] w W1) := hid (o1.more (by simp))
  have HNow := hid hn
  clear hO o1 hn
  have e1 : (l.op != 2) = false := by simp [h1]
  have e2 : (l.id != s.id) = false := by simp [h2]
  have HMQ : Hid (decide (l.c0 = s.c0 ∧ l.c1 = s.c1 ∧ l.c2 = s.c2 ∧ l.c3 = s.c3 ∧ l.c4 = s.c4 ∧ l.c5 = s.c5) = true) := hid h3
  clear h1 h2 h3
  have f1 : (s.st == 1) = false := by simp [hs]
  have f2 : (s.st == 2) = true := by simp [hs]
  clear hs
  by_cases g1 : l.ty = 5
  · have t1 : (l.ty == 5) = true := by simp [g1]
    have t3 : (l.ty == 6) = false := by simp [g1]
    by_cases g2 : l.yo = s.of.yo
    · have t2 : (l.yo == s.of.yo) = true := by simp [g2]
      have HG : Hid (s.dgranted l s.of.yo s.of.sv now draw = (s.bound l s.of.sv now, [])) := hid (if_pos ⟨g1, g2⟩)
      rw [HG.out]
      clear g1 g2
      go_enter Try.func20, Try.ntmps20
      go_wp2_with fail
      refine wp_region_noPanic ?_
      refine rgn.regionT (R := Only []) (by kernel_rfl) (Only.refl []) (fun _ _ _ => Only.trans) (fun _ _ _ _ _ h => h) (.y 0 (.y 1 (.y 2 (.y 3 (.y 4 (.y 5 (.y 6 (.y 7 (.y 8 (.y 9 (.y 10 (.y 11 (.y 12 (.y 13 (.y 14 (.y 15 (.y 16 (.y 17 (.y 18 (.y 19 (.y 20 .z))))))))))))))))))))) (by kernel_rfl) (fun W hWd => ?_)
      have HWd := hid hWd; clear hWd
      have q8 : Only [] W1 W := Only.eq_drew (Only.refl [] _) HWd.out
      have OM := hid (OM.out.only q8 (by simp)); have OB := hid (OB.out.only q8 (by simp)); have QM := hid (QM.out.trans (q8.more (by simp)))
      clear q8 HWd
      refine rgn.Walk.ys (v := ?_) rfl rfl rfl ?_ ?_
      rotate_left 1
      · intro W' hW'
        go_simp
        try with_reducible rfl
      try simp only [Act.put, List.setIfInBounds_toArray, List.set_cons_zero, List.set_cons_succ]
      refine rgn.Walk.ys (v := ?_) rfl rfl rfl ?_ ?_
      rotate_left 1
      · intro W' hW'
        have q0 := l_op (OB.out.only hW' (by simp))
        go_simp
        try with_reducible rfl
      try simp only [Act.put, List.setIfInBounds_toArray, List.set_cons_zero, List.set_cons_succ]
      refine rgn.Walk.ys (v := ?_) rfl rfl rfl ?_ ?_
      rotate_left 1
      · intro W' hW'
        go_simp
        try with_reducible rfl
      try simp only [Act.put, List.setIfInBounds_toArray, List.set_cons_zero, List.set_cons_succ]
      refine rgn.Walk.ys (v := ?_) rfl rfl rfl ?_ ?_
      rotate_left 1
      · intro W' hW'
        go_simp
        try with_reducible rfl
      try simp only [Act.put, List.setIfInBounds_toArray, List.set_cons_zero, List.set_cons_succ]
      refine rgn.Walk.ys (v := ?_) rfl rfl rfl ?_ ?_
      rotate_left 1
      · intro W' hW'
        go_simp
        try with_reducible rfl
      try simp only [Act.put, List.setIfInBounds_toArray, List.set_cons_zero, List.set_cons_succ]
      refine rgn.Walk.ys (v := ?_) rfl rfl rfl ?_ ?_
      rotate_left 1
      · intro W' hW'
        have q0 := l_id (OB.out.only hW' (by simp))
        go_simp
        try with_reducible rfl
      try simp only [Act.put, List.setIfInBounds_toArray, List.set_cons_zero, List.set_cons_succ]
      refine rgn.Walk.ys (v := ?_) rfl rfl rfl ?_ ?_
      rotate_left 1
      · intro W' hW'
        go_simp
        try with_reducible rfl
      try simp only [Act.put, List.setIfInBounds_toArray, List.set_cons_zero, List.set_cons_succ]
      refine rgn.Walk.ys (v := ?_) rfl rfl rfl ?_ ?_
      rotate_left 1
      · intro W' hW'
        go_simp
        try with_reducible rfl
      try simp only [Act.put, List.setIfInBounds_toArray, List.set_cons_zero, List.set_cons_succ]
      refine rgn.Walk.ys (v := ?_) rfl rfl rfl ?_ ?_
      rotate_left 1
      · intro W' hW'
        go_simp
        try with_reducible rfl
      try simp only [Act.put, List.setIfInBounds_toArray, List.set_cons_zero, List.set_cons_succ]
      refine rgn.Walk.ys (v := ?_) rfl rfl rfl ?_ ?_
      rotate_left 1
      · intro W' hW'
        have q0 := k_id (OM.out.only hW' (by simp))
        go_simp
        try with_reducible rfl
      try simp only [Act.put, List.setIfInBounds_toArray, List.set_cons_zero, List.set_cons_succ]
      refine rgn.Walk.ys (v := ?_) rfl rfl rfl ?_ ?_
      rotate_left 1
      · intro W' hW'
        go_simp
        try with_reducible rfl
      try simp only [Act.put, List.setIfInBounds_toArray, List.set_cons_zero, List.set_cons_succ]
      refine rgn.Walk.ys (v := ?_) rfl rfl rfl ?_ ?_
      rotate_left 1
      · intro W' hW'
        go_simp
        try with_reducible rfl
      try simp only [Act.put, List.setIfInBounds_toArray, List.set_cons_zero, List.set_cons_succ]
      refine rgn.Walk.ys (v := ?_) rfl rfl rfl ?_ ?_
      rotate_left 1
      · intro W' hW'
        go_simp
        try with_reducible rfl
      try simp only [Act.put, List.setIfInBounds_toArray, List.set_cons_zero, List.set_cons_succ]
      refine rgn.Walk.ys (v := ?_) rfl rfl rfl ?_ ?_
      rotate_left 1
      · intro W' hW'
        go_simp
        try with_reducible rfl
      try simp only [Act.put, List.setIfInBounds_toArray, List.set_cons_zero, List.set_cons_succ]
      refine rgn.Walk.ys rfl rfl rfl (fun W' hW' => exec_mac _ _ rfl b 3 rfl _ _ _ _ _ _ (r_lmac (OB.out.only hW' (by simp))) Try.underlying25 rfl (by kernel_rfl)) ?_
      try simp only [Act.put, List.setIfInBounds_toArray, List.set_cons_zero, List.set_cons_succ]
      refine rgn.Walk.ys (v := ?_) rfl rfl rfl ?_ ?_
      rotate_left 1
      · intro W' hW'
        go_simp
        try with_reducible rfl
      try simp only [Act.put, List.setIfInBounds_toArray, List.set_cons_zero, List.set_cons_succ]
      refine rgn.Walk.ys (v := ?_) rfl rfl rfl ?_ ?_
      rotate_left 1
      · intro W' hW'
        go_simp
        try with_reducible rfl
      try simp only [Act.put, List.setIfInBounds_toArray, List.set_cons_zero, List.set_cons_succ]
      refine rgn.Walk.ys (v := ?_) rfl rfl rfl ?_ ?_
      rotate_left 1
      · intro W' hW'
        go_simp
        try with_reducible rfl
      try simp only [Act.put, List.setIfInBounds_toArray, List.set_cons_zero, List.set_cons_succ]
      refine rgn.Walk.ys rfl rfl rfl (fun W' hW' => exec_mac _ _ rfl m 0 rfl _ _ _ _ _ _ (r_mac (OM.out.only hW' (by simp))) Try.underlying25 rfl (by kernel_rfl)) ?_
      try simp only [Act.put, List.setIfInBounds_toArray, List.set_cons_zero, List.set_cons_succ]
      refine rgn.Walk.ys (v := ?_) rfl rfl rfl ?_ ?_
      rotate_left 1
      · intro W' hW'
        have q7 := ev.eqMacD 9998 l.c0 l.c1 l.c2 l.c3 l.c4 l.c5 s.c0 s.c1 s.c2 s.c3 s.c4 s.c5 W'
        rw [HMQ.out] at q7
        go_simp
        try with_reducible rfl
      try simp only [Act.put, List.setIfInBounds_toArray, List.set_cons_zero, List.set_cons_succ]
      refine rgn.Walk.ys (v := ?_) rfl rfl rfl ?_ ?_
      rotate_left 1
      · intro W' hW'
        go_simp
        try with_reducible rfl
      try simp only [Act.put, List.setIfInBounds_toArray, List.set_cons_zero, List.set_cons_succ]
      refine rgn.Walk.zs (NoPanic.normal ?_)
      clear e1 e2
      have k6 := k_st OM.out
      go_wp2_with fail
      refine wp_region_noPanic ?_
      refine rgn.regionT (R := Only []) (by kernel_rfl) (Only.refl []) (fun _ _ _ => Only.trans) (fun _ _ _ _ _ h => h) (.y 0 (.y 1 (.y 2 (.y 3 (.y 4 (.y 5 (.y 6 (.y 7 (.y 8 (.y 9 (.y 10 (.y 11 (.y 12 .z))))))))))))) (by kernel_rfl) (fun WZ hWd => ?_)
      have HWd := hid hWd; clear hWd
      clear k6
      have q8 : Only [] W WZ := Only.eq_drew (Only.refl [] _) HWd.out
      have OM := hid (OM.out.only q8 (by simp)); have OB := hid (OB.out.only q8 (by simp)); have QM := hid (QM.out.trans (q8.more (by simp)))
      clear q8 HWd
      have k6 := k_st OM.out
      refine rgn.Walk.ys (v := ?_) rfl rfl rfl ?_ ?_
      rotate_left 1
      · intro W' hW'
        go_simp
        try with_reducible rfl
      try simp only [Act.put, List.setIfInBounds_toArray, List.set_cons_zero, List.set_cons_succ]
      refine rgn.Walk.ys (v := ?_) rfl rfl rfl ?_ ?_
      rotate_left 1
      · intro W' hW'
        have q0 := l_ty (OB.out.only hW' (by simp))
        go_simp
        try with_reducible rfl
      try simp only [Act.put, List.setIfInBounds_toArray, List.set_cons_zero, List.set_cons_succ]
      refine rgn.Walk.ys (v := ?_) rfl rfl rfl ?_ ?_
      rotate_left 1
      · intro W' hW'
        go_simp
        try with_reducible rfl
      try simp only [Act.put, List.setIfInBounds_toArray, List.set_cons_zero, List.set_cons_succ]
      refine rgn.Walk.ys (v := ?_) rfl rfl rfl ?_ ?_
      rotate_left 1
      · intro W' hW'
        go_simp
        try with_reducible rfl
      try simp only [Act.put, List.setIfInBounds_toArray, List.set_cons_zero, List.set_cons_succ]
      refine rgn.Walk.ys (v := ?_) rfl rfl rfl ?_ ?_
      rotate_left 1
      · intro W' hW'
        go_simp
        try with_reducible rfl
      try simp only [Act.put, List.setIfInBounds_toArray, List.set_cons_zero, List.set_cons_succ]
      refine rgn.Walk.ys (v := ?_) rfl rfl rfl ?_ ?_
      rotate_left 1
      · intro W' hW'
        have q0 := l_yo (OB.out.only hW' (by simp))
        go_simp
        try with_reducible rfl
      try simp only [Act.put, List.setIfInBounds_toArray, List.set_cons_zero, List.set_cons_succ]
      refine rgn.Walk.ys (v := ?_) rfl rfl rfl ?_ ?_
      rotate_left 1
      · intro W' hW'
        go_simp
        try with_reducible rfl
      try simp only [Act.put, List.setIfInBounds_toArray, List.set_cons_zero, List.set_cons_succ]
      refine rgn.Walk.ys (v := ?_) rfl rfl rfl ?_ ?_
      rotate_left 1
      · intro W' hW'
        go_simp
        try with_reducible rfl
      try simp only [Act.put, List.setIfInBounds_toArray, List.set_cons_zero, List.set_cons_succ]
      refine rgn.Walk.ys (v := ?_) rfl rfl rfl ?_ ?_
      rotate_left 1
      · intro W' hW'
        go_simp
        try with_reducible rfl
      try simp only [Act.put, List.setIfInBounds_toArray, List.set_cons_zero, List.set_cons_succ]
      refine rgn.Walk.ys (v := ?_) rfl rfl rfl ?_ ?_
      rotate_left 1
      · intro W' hW'
        go_simp
        try with_reducible rfl
      try simp only [Act.put, List.setIfInBounds_toArray, List.set_cons_zero, List.set_cons_succ]
      refine rgn.Walk.ys (v := ?_) rfl rfl rfl ?_ ?_
      rotate_left 1
      · intro W' hW'
        have q0 := k_of_yo (OM.out.only hW' (by simp))
        go_simp
        try with_reducible rfl
      try simp only [Act.put, List.setIfInBounds_toArray, List.set_cons_zero, List.set_cons_succ]
      refine rgn.Walk.ys (v := ?_) rfl rfl rfl ?_ ?_
      rotate_left 1
      · intro W' hW'
        go_simp
        try with_reducible rfl
      try simp only [Act.put, List.setIfInBounds_toArray, List.set_cons_zero, List.set_cons_succ]
      refine rgn.Walk.ys (v := ?_) rfl rfl rfl ?_ ?_
      rotate_left 1
      · intro W' hW'
        go_simp
        try with_reducible rfl
      try simp only [Act.put, List.setIfInBounds_toArray, List.set_cons_zero, List.set_cons_succ]
      refine rgn.Walk.zs (NoPanic.normal ?_)
      have c4 := l_ty OB.out
      go_wp2_with fail
      refine wp_region_noPanic ?_
      refine rgn.regionT (R := Only [m]) (by kernel_rfl) (Only.refl [m]) (fun _ _ _ => Only.trans) (fun _ _ _ _ _ h => h) (.y 0 (.y 1 (.y 2 (.y 3 (.y 4 (.y 5 (.y 7 (.e 6 (.e 8 .z))))))))) (by kernel_rfl) (fun WY hWd => ?_)
      have HWd := hid hWd; clear hWd
      clear k6 c4
      have q8 : Only [] WZ WY := Only.eq_drew (Only.refl [] _) HWd.out
      have OM := hid (OM.out.only q8 (by simp)); have OB := hid (OB.out.only q8 (by simp)); have QM := hid (QM.out.trans (q8.more (by simp)))
      clear q8 HWd
      refine rgn.Walk.ys (v := ?_) rfl rfl rfl ?_ ?_
      rotate_left 1
      · intro W' hW'
        go_simp
        try with_reducible rfl
      try simp only [Act.put, List.setIfInBounds_toArray, List.set_cons_zero, List.set_cons_succ]
      refine rgn.Walk.ys rfl rfl rfl (fun W' hW' => exec_lm _ _ rfl b 0 rfl l (r_all (OB.out.only hW' HBM.out)) Try.underlying27 rfl (by kernel_rfl)) ?_
      try simp only [Act.put, List.setIfInBounds_toArray, List.set_cons_zero, List.set_cons_succ]
      refine rgn.Walk.ys (v := ?_) rfl rfl rfl ?_ ?_
      rotate_left 1
      · intro W' hW'
        go_simp
        try with_reducible rfl
      try simp only [Act.put, List.setIfInBounds_toArray, List.set_cons_zero, List.set_cons_succ]
      refine rgn.Walk.ys (v := ?_) rfl rfl rfl ?_ ?_
      rotate_left 1
      · intro W' hW'
        go_simp
        try with_reducible rfl
      try simp only [Act.put, List.setIfInBounds_toArray, List.set_cons_zero, List.set_cons_succ]
      refine rgn.Walk.ys (v := ?_) rfl rfl rfl ?_ ?_
      rotate_left 1
      · intro W' hW'
        go_simp
        try with_reducible rfl
      try simp only [Act.put, List.setIfInBounds_toArray, List.set_cons_zero, List.set_cons_succ]
      refine rgn.Walk.ys (v := ?_) rfl rfl rfl ?_ ?_
      rotate_left 1
      · intro W' hW'
        go_simp
        try with_reducible rfl
      try simp only [Act.put, List.setIfInBounds_toArray, List.set_cons_zero, List.set_cons_succ]
      refine rgn.Walk.ys (v := ?_) rfl rfl rfl ?_ ?_
      rotate_left 1
      · intro W' hW'
        go_simp
        try with_reducible rfl
      try simp only [Act.put, List.setIfInBounds_toArray, List.set_cons_zero, List.set_cons_succ]
      refine rgn.Walk.es ?_
      refine rgn.stepE rfl rfl (fun K hK => ?_)
      have qq := k_of_sv OM.out
      go_simp
      refine hK _ _ (Only.refl _ _) ?_
      clear hK K qq
      try simp only [Act.put, List.setIfInBounds_toArray, List.set_cons_zero, List.set_cons_succ]
      refine rgn.Walk.es ?_
      refine rgn.stepE rfl rfl (fun K hK => ?_)
      go_simp
      refine (bindsD _ m T tl s l s.of.sv now OM.out HNow.out).mono ?_
      rintro x w4 ⟨rfl, hO4, o4⟩
      refine hK _ _ o4 ?_
      clear hK K
      try simp only [Act.put, List.setIfInBounds_toArray, List.set_cons_zero, List.set_cons_succ]
      have OM := hid hO4; have QM := hid (QM.out.trans o4); have OB := hid (OB.out.only o4 HBM.out)
      clear hO4 o4
      refine rgn.Walk.zs (NoPanic.normal ?_)
      have c4 := l_ty OB.out
      go_wp2_with fail
      go_ret
      exact step_none OM.out QM.out
    · have t2 : (l.yo == s.of.yo) = false := by simp [g2]
      have HG : Hid (s.dgranted l s.of.yo s.of.sv now draw = (s, [])) := hid (by unfold Mc.dgranted; rw [if_neg (by simp [g2]), if_neg (by omega)])
      rw [HG.out]
      clear g1 g2
      go_enter Try.func20, Try.ntmps20
      go_wp2_with fail
      refine wp_region_noPanic ?_
      refine rgn.regionT (R := Only []) (by kernel_rfl) (Only.refl []) (fun _ _ _ => Only.trans) (fun _ _ _ _ _ h => h) (.y 0 (.y 1 (.y 2 (.y 3 (.y 4 (.y 5 (.y 6 (.y 7 (.y 8 (.y 9 (.y 10 (.y 11 (.y 12 (.y 13 (.y 14 (.y 15 (.y 16 (.y 17 (.y 18 (.y 19 (.y 20 .z))))))))))))))))))))) (by kernel_rfl) (fun W hWd => ?_)
      have HWd := hid hWd; clear hWd
      have q8 : Only [] W1 W := Only.eq_drew (Only.refl [] _) HWd.out
      have OM := hid (OM.out.only q8 (by simp)); have OB := hid (OB.out.only q8 (by simp)); have QM := hid (QM.out.trans (q8.more (by simp)))
      clear q8 HWd
      refine rgn.Walk.ys (v := ?_) rfl rfl rfl ?_ ?_
      rotate_left 1
      · intro W' hW'
        go_simp
        try with_reducible rfl
      try simp only [Act.put, List.setIfInBounds_toArray, List.set_cons_zero, List.set_cons_succ]
      refine rgn.Walk.ys (v := ?_) rfl rfl rfl ?_ ?_
      rotate_left 1
      · intro W' hW'
        have q0 := l_op (OB.out.only hW' (by simp))
        go_simp
        try with_reducible rfl
      try simp only [Act.put, List.setIfInBounds_toArray, List.set_cons_zero, List.set_cons_succ]
      refine rgn.Walk.ys (v := ?_) rfl rfl rfl ?_ ?_
      rotate_left 1
      · intro W' hW'
        go_simp
        try with_reducible rfl
      try simp only [Act.put, List.setIfInBounds_toArray, List.set_cons_zero, List.set_cons_succ]
      refine rgn.Walk.ys (v := ?_) rfl rfl rfl ?_ ?_
      rotate_left 1
      · intro W' hW'
        go_simp
        try with_reducible rfl
      try simp only [Act.put, List.setIfInBounds_toArray, List.set_cons_zero, List.set_cons_succ]
      refine rgn.Walk.ys (v := ?_) rfl rfl rfl ?_ ?_
      rotate_left 1
      · intro W' hW'
        go_simp
        try with_reducible rfl
      try simp only [Act.put, List.setIfInBounds_toArray, List.set_cons_zero, List.set_cons_succ]
      refine rgn.Walk.ys (v := ?_) rfl rfl rfl ?_ ?_
      rotate_left 1
      · intro W' hW'
        have q0 := l_id (OB.out.only hW' (by simp))
        go_simp
        try with_reducible rfl
      try simp only [Act.put, List.setIfInBounds_toArray, List.set_cons_zero, List.set_cons_succ]
      refine rgn.Walk.ys (v := ?_) rfl rfl rfl ?_ ?_
      rotate_left 1
      · intro W' hW'
        go_simp
        try with_reducible rfl
      try simp only [Act.put, List.setIfInBounds_toArray, List.set_cons_zero, List.set_cons_succ]
      refine rgn.Walk.ys (v := ?_) rfl rfl rfl ?_ ?_
      rotate_left 1
      · intro W' hW'
        go_simp
        try with_reducible rfl
      try simp only [Act.put, List.setIfInBounds_toArray, List.set_cons_zero, List.set_cons_succ]
      refine rgn.Walk.ys (v := ?_) rfl rfl rfl ?_ ?_
      rotate_left 1
      · intro W' hW'
        go_simp
        try with_reducible rfl
      try simp only [Act.put, List.setIfInBounds_toArray, List.set_cons_zero, List.set_cons_succ]
      refine rgn.Walk.ys (v := ?_) rfl rfl rfl ?_ ?_
      rotate_left 1
      · intro W' hW'
        have q0 := k_id (OM.out.only hW' (by simp))
        go_simp
        try with_reducible rfl
      try simp only [Act.put, List.setIfInBounds_toArray, List.set_cons_zero, List.set_cons_succ]
      refine rgn.Walk.ys (v := ?_) rfl rfl rfl ?_ ?_
      rotate_left 1
      · intro W' hW'
        go_simp
        try with_reducible rfl
      try simp only [Act.put, List.setIfInBounds_toArray, List.set_cons_zero, List.set_cons_succ]
      refine rgn.Walk.ys (v := ?_) rfl rfl rfl ?_ ?_
      rotate_left 1
      · intro W' hW'
        go_simp
        try with_reducible rfl
      try simp only [Act.put, List.setIfInBounds_toArray, List.set_cons_zero, List.set_cons_succ]
      refine rgn.Walk.ys (v := ?_) rfl rfl rfl ?_ ?_
      rotate_left 1
      · intro W' hW'
        go_simp
        try with_reducible rfl
      try simp only [Act.put, List.setIfInBounds_toArray, List.set_cons_zero, List.set_cons_succ]
      refine rgn.Walk.ys (v := ?_) rfl rfl rfl ?_ ?_
      rotate_left 1
      · intro W' hW'
        go_simp
        try with_reducible rfl
      try simp only [Act.put, List.setIfInBounds_toArray, List.set_cons_zero, List.set_cons_succ]
      refine rgn.Walk.ys rfl rfl rfl (fun W' hW' => exec_mac _ _ rfl b 3 rfl _ _ _ _ _ _ (r_lmac (OB.out.only hW' (by simp))) Try.underlying25 rfl (by kernel_rfl)) ?_
      try simp only [Act.put, List.setIfInBounds_toArray, List.set_cons_zero, List.set_cons_succ]
      refine rgn.Walk.ys (v := ?_) rfl rfl rfl ?_ ?_
      rotate_left 1
      · intro W' hW'
        go_simp
        try with_reducible rfl
      try simp only [Act.put, List.setIfInBounds_toArray, List.set_cons_zero, List.set_cons_succ]
      refine rgn.Walk.ys (v := ?_) rfl rfl rfl ?_ ?_
      rotate_left 1
      · intro W' hW'
        go_simp
        try with_reducible rfl
      try simp only [Act.put, List.setIfInBounds_toArray, List.set_cons_zero, List.set_cons_succ]
      refine rgn.Walk.ys (v := ?_) rfl rfl rfl ?_ ?_
      rotate_left 1
      · intro W' hW'
        go_simp
        try with_reducible rfl
      try simp only [Act.put, List.setIfInBounds_toArray, List.set_cons_zero, List.set_cons_succ]
      refine rgn.Walk.ys rfl rfl rfl (fun W' hW' => exec_mac _ _ rfl m 0 rfl _ _ _ _ _ _ (r_mac (OM.out.only hW' (by simp))) Try.underlying25 rfl (by kernel_rfl)) ?_
      try simp only [Act.put, List.setIfInBounds_toArray, List.set_cons_zero, List.set_cons_succ]
      refine rgn.Walk.ys (v := ?_) rfl rfl rfl ?_ ?_
      rotate_left 1
      · intro W' hW'
        have q7 := ev.eqMacD 9998 l.c0 l.c1 l.c2 l.c3 l.c4 l.c5 s.c0 s.c1 s.c2 s.c3 s.c4 s.c5 W'
        rw [HMQ.out] at q7
        go_simp
        try with_reducible rfl
      try simp only [Act.put, List.setIfInBounds_toArray, List.set_cons_zero, List.set_cons_succ]
      refine rgn.Walk.ys (v := ?_) rfl rfl rfl ?_ ?_
      rotate_left 1
      · intro W' hW'
        go_simp
        try with_reducible rfl
      try simp only [Act.put, List.setIfInBounds_toArray, List.set_cons_zero, List.set_cons_succ]
      refine rgn.Walk.zs (NoPanic.normal ?_)
      clear e1 e2
      have k6 := k_st OM.out
      go_wp2_with fail
      refine wp_region_noPanic ?_
      refine rgn.regionT (R := Only []) (by kernel_rfl) (Only.refl []) (fun _ _ _ => Only.trans) (fun _ _ _ _ _ h => h) (.y 0 (.y 1 (.y 2 (.y 3 (.y 4 (.y 5 (.y 6 (.y 7 (.y 8 (.y 9 (.y 10 (.y 11 (.y 12 .z))))))))))))) (by kernel_rfl) (fun WZ hWd => ?_)
      have HWd := hid hWd; clear hWd
      clear k6
      have q8 : Only [] W WZ := Only.eq_drew (Only.refl [] _) HWd.out
      have OM := hid (OM.out.only q8 (by simp)); have OB := hid (OB.out.only q8 (by simp)); have QM := hid (QM.out.trans (q8.more (by simp)))
      clear q8 HWd
      have k6 := k_st OM.out
      refine rgn.Walk.ys (v := ?_) rfl rfl rfl ?_ ?_
      rotate_left 1
      · intro W' hW'
        go_simp
        try with_reducible rfl
      try simp only [Act.put, List.setIfInBounds_toArray, List.set_cons_zero, List.set_cons_succ]
      refine rgn.Walk.ys (v := ?_) rfl rfl rfl ?_ ?_
      rotate_left 1
      · intro W' hW'
        have q0 := l_ty (OB.out.only hW' (by simp))
        go_simp
        try with_reducible rfl
      try simp only [Act.put, List.setIfInBounds_toArray, List.set_cons_zero, List.set_cons_succ]
      refine rgn.Walk.ys (v := ?_) rfl rfl rfl ?_ ?_
      rotate_left 1
      · intro W' hW'
        go_simp
        try with_reducible rfl
      try simp only [Act.put, List.setIfInBounds_toArray, List.set_cons_zero, List.set_cons_succ]
      refine rgn.Walk.ys (v := ?_) rfl rfl rfl ?_ ?_
      rotate_left 1
      · intro W' hW'
        go_simp
        try with_reducible rfl
      try simp only [Act.put, List.setIfInBounds_toArray, List.set_cons_zero, List.set_cons_succ]
      refine rgn.Walk.ys (v := ?_) rfl rfl rfl ?_ ?_
      rotate_left 1
      · intro W' hW'
        go_simp
        try with_reducible rfl
      try simp only [Act.put, List.setIfInBounds_toArray, List.set_cons_zero, List.set_cons_succ]
      refine rgn.Walk.ys (v := ?_) rfl rfl rfl ?_ ?_
      rotate_left 1
      · intro W' hW'
        have q0 := l_yo (OB.out.only hW' (by simp))
        go_simp
        try with_reducible rfl
      try simp only [Act.put, List.setIfInBounds_toArray, List.set_cons_zero, List.set_cons_succ]
      refine rgn.Walk.ys (v := ?_) rfl rfl rfl ?_ ?_
      rotate_left 1
      · intro W' hW'
        go_simp
        try with_reducible rfl
      try simp only [Act.put, List.setIfInBounds_toArray, List.set_cons_zero, List.set_cons_succ]
      refine rgn.Walk.ys (v := ?_) rfl rfl rfl ?_ ?_
      rotate_left 1
      · intro W' hW'
        go_simp
        try with_reducible rfl
      try simp only [Act.put, List.setIfInBounds_toArray, List.set_cons_zero, List.set_cons_succ]
      refine rgn.Walk.ys (v := ?_) rfl rfl rfl ?_ ?_
      rotate_left 1
      · intro W' hW'
        go_simp
        try with_reducible rfl
      try simp only [Act.put, List.setIfInBounds_toArray, List.set_cons_zero, List.set_cons_succ]
      refine rgn.Walk.ys (v := ?_) rfl rfl rfl ?_ ?_
      rotate_left 1
      · intro W' hW'
        go_simp
        try with_reducible rfl
      try simp only [Act.put, List.setIfInBounds_toArray, List.set_cons_zero, List.set_cons_succ]
      refine rgn.Walk.ys (v := ?_) rfl rfl rfl ?_ ?_
      rotate_left 1
      · intro W' hW'
        have q0 := k_of_yo (OM.out.only hW' (by simp))
        go_simp
        try with_reducible rfl
      try simp only [Act.put, List.setIfInBounds_toArray, List.set_cons_zero, List.set_cons_succ]
      refine rgn.Walk.ys (v := ?_) rfl rfl rfl ?_ ?_
      rotate_left 1
      · intro W' hW'
        go_simp
        try with_reducible rfl
      try simp only [Act.put, List.setIfInBounds_toArray, List.set_cons_zero, List.set_cons_succ]
      refine rgn.Walk.ys (v := ?_) rfl rfl rfl ?_ ?_
      rotate_left 1
      · intro W' hW'
        go_simp
        try with_reducible rfl
      try simp only [Act.put, List.setIfInBounds_toArray, List.set_cons_zero, List.set_cons_succ]
      refine rgn.Walk.zs (NoPanic.normal ?_)
      have c4 := l_ty OB.out
      go_wp2_with fail
      go_ret
      exact step_none OM.out QM.out
  · have t1 : (l.ty == 5) = false := by simp [g1]
    by_cases g3 : l.ty = 6
    · have t3 : (l.ty == 6) = true := by simp [g3]
      have HG : Hid (s.dgranted l s.of.yo s.of.sv now draw = (s.dbegin now draw, [(s.dbegin now draw).sent 1 0 0])) := hid (by unfold Mc.dgranted; rw [if_neg (by simp [g1]), if_pos g3])
      rw [HG.out]
      clear g1 g3
      go_enter Try.func20, Try.ntmps20
      go_wp2_with fail
      refine wp_region_noPanic ?_
      refine rgn.regionT (R := Only []) (by kernel_rfl) (Only.refl []) (fun _ _ _ => Only.trans) (fun _ _ _ _ _ h => h) (.y 0 (.y 1 (.y 2 (.y 3 (.y 4 (.y 5 (.y 6 (.y 7 (.y 8 (.y 9 (.y 10 (.y 11 (.y 12 (.y 13 (.y 14 (.y 15 (.y 16 (.y 17 (.y 18 (.y 19 (.y 20 .z))))))))))))))))))))) (by kernel_rfl) (fun W hWd => ?_)
      have HWd := hid hWd; clear hWd
      have q8 : Only [] W1 W := Only.eq_drew (Only.refl [] _) HWd.out
      have OM := hid (OM.out.only q8 (by simp)); have OB := hid (OB.out.only q8 (by simp)); have QM := hid (QM.out.trans (q8.more (by simp)))
      clear q8 HWd
      refine rgn.Walk.ys (v := ?_) rfl rfl rfl ?_ ?_
      rotate_left 1
      · intro W' hW'
        go_simp
        try with_reducible rfl
      try simp only [Act.put, List.setIfInBounds_toArray, List.set_cons_zero, List.set_cons_succ]
      refine rgn.Walk.ys (v := ?_) rfl rfl rfl ?_ ?_
      rotate_left 1
      · intro W' hW'
        have q0 := l_op (OB.out.only hW' (by simp))
        go_simp
        try with_reducible rfl
      try simp only [Act.put, List.setIfInBounds_toArray, List.set_cons_zero, List.set_cons_succ]
      refine rgn.Walk.ys (v := ?_) rfl rfl rfl ?_ ?_
      rotate_left 1
      · intro W' hW'
        go_simp
        try with_reducible rfl
      try simp only [Act.put, List.setIfInBounds_toArray, List.set_cons_zero, List.set_cons_succ]
      refine rgn.Walk.ys (v := ?_) rfl rfl rfl ?_ ?_
      rotate_left 1
      · intro W' hW'
        go_simp
        try with_reducible rfl
      try simp only [Act.put, List.setIfInBounds_toArray, List.set_cons_zero, List.set_cons_succ]
      refine rgn.Walk.ys (v := ?_) rfl rfl rfl ?_ ?_
      rotate_left 1
      · intro W' hW'
        go_simp
        try with_reducible rfl
      try simp only [Act.put, List.setIfInBounds_toArray, List.set_cons_zero, List.set_cons_succ]
      refine rgn.Walk.ys (v := ?_) rfl rfl rfl ?_ ?_
      rotate_left 1
      · intro W' hW'
        have q0 := l_id (OB.out.only hW' (by simp))
        go_simp
        try with_reducible rfl
      try simp only [Act.put, List.setIfInBounds_toArray, List.set_cons_zero, List.set_cons_succ]
      refine rgn.Walk.ys (v := ?_) rfl rfl rfl ?_ ?_
      rotate_left 1
      · intro W' hW'
        go_simp
        try with_reducible rfl
      try simp only [Act.put, List.setIfInBounds_toArray, List.set_cons_zero, List.set_cons_succ]
      refine rgn.Walk.ys (v := ?_) rfl rfl rfl ?_ ?_
      rotate_left 1
      · intro W' hW'
        go_simp
        try with_reducible rfl
      try simp only [Act.put, List.setIfInBounds_toArray, List.set_cons_zero, List.set_cons_succ]
      refine rgn.Walk.ys (v := ?_) rfl rfl rfl ?_ ?_
      rotate_left 1
      · intro W' hW'
        go_simp
        try with_reducible rfl
      try simp only [Act.put, List.setIfInBounds_toArray, List.set_cons_zero, List.set_cons_succ]
      refine rgn.Walk.ys (v := ?_) rfl rfl rfl ?_ ?_
      rotate_left 1
      · intro W' hW'
        have q0 := k_id (OM.out.only hW' (by simp))
        go_simp
        try with_reducible rfl
      try simp only [Act.put, List.setIfInBounds_toArray, List.set_cons_zero, List.set_cons_succ]
      refine rgn.Walk.ys (v := ?_) rfl rfl rfl ?_ ?_
      rotate_left 1
      · intro W' hW'
        go_simp
        try with_reducible rfl
      try simp only [Act.put, List.setIfInBounds_toArray, List.set_cons_zero, List.set_cons_succ]
      refine rgn.Walk.ys (v := ?_) rfl rfl rfl ?_ ?_
      rotate_left 1
      · intro W' hW'
        go_simp
        try with_reducible rfl
      try simp only [Act.put, List.setIfInBounds_toArray, List.set_cons_zero, List.set_cons_succ]
      refine rgn.Walk.ys (v := ?_) rfl rfl rfl ?_ ?_
      rotate_left 1
      · intro W' hW'
        go_simp
        try with_reducible rfl
      try simp only [Act.put, List.setIfInBounds_toArray, List.set_cons_zero, List.set_cons_succ]
      refine rgn.Walk.ys (v := ?_) rfl rfl rfl ?_ ?_
      rotate_left 1
      · intro W' hW'
        go_simp
        try with_reducible rfl
      try simp only [Act.put, List.setIfInBounds_toArray, List.set_cons_zero, List.set_cons_succ]
      refine rgn.Walk.ys rfl rfl rfl (fun W' hW' => exec_mac _ _ rfl b 3 rfl _ _ _ _ _ _ (r_lmac (OB.out.only hW' (by simp))) Try.underlying25 rfl (by kernel_rfl)) ?_
      try simp only [Act.put, List.setIfInBounds_toArray, List.set_cons_zero, List.set_cons_succ]
      refine rgn.Walk.ys (v := ?_) rfl rfl rfl ?_ ?_
      rotate_left 1
      · intro W' hW'
        go_simp
        try with_reducible rfl
      try simp only [Act.put, List.setIfInBounds_toArray, List.set_cons_zero, List.set_cons_succ]
      refine rgn.Walk.ys (v := ?_) rfl rfl rfl ?_ ?_
      rotate_left 1
      · intro W' hW'
        go_simp
        try with_reducible rfl
      try simp only [Act.put, List.setIfInBounds_toArray, List.set_cons_zero, List.set_cons_succ]
      refine rgn.Walk.ys (v := ?_) rfl rfl rfl ?_ ?_
      rotate_left 1
      · intro W' hW'
        go_simp
        try with_reducible rfl
      try simp only [Act.put, List.setIfInBounds_toArray, List.set_cons_zero, List.set_cons_succ]
      refine rgn.Walk.ys rfl rfl rfl (fun W' hW' => exec_mac _ _ rfl m 0 rfl _ _ _ _ _ _ (r_mac (OM.out.only hW' (by simp))) Try.underlying25 rfl (by kernel_rfl)) ?_
      try simp only [Act.put, List.setIfInBounds_toArray, List.set_cons_zero, List.set_cons_succ]
      refine rgn.Walk.ys (v := ?_) rfl rfl rfl ?_ ?_
      rotate_left 1
      · intro W' hW'
        have q7 := ev.eqMacD 9998 l.c0 l.c1 l.c2 l.c3 l.c4 l.c5 s.c0 s.c1 s.c2 s.c3 s.c4 s.c5 W'
        rw [HMQ.out] at q7
        go_simp
        try with_reducible rfl
      try simp only [Act.put, List.setIfInBounds_toArray, List.set_cons_zero, List.set_cons_succ]
      refine rgn.Walk.ys (v := ?_) rfl rfl rfl ?_ ?_
      rotate_left 1
      · intro W' hW'
        go_simp
        try with_reducible rfl
      try simp only [Act.put, List.setIfInBounds_toArray, List.set_cons_zero, List.set_cons_succ]
      refine rgn.Walk.zs (NoPanic.normal ?_)
      clear e1 e2
      have k6 := k_st OM.out
      go_wp2_with fail
      refine wp_region_noPanic ?_
      refine rgn.regionT (R := Only []) (by kernel_rfl) (Only.refl []) (fun _ _ _ => Only.trans) (fun _ _ _ _ _ h => h) (.y 0 (.y 1 (.y 2 (.y 3 (.y 4 (.y 5 (.y 6 (.y 7 (.y 8 (.y 9 (.y 10 (.y 11 (.y 12 .z))))))))))))) (by kernel_rfl) (fun WZ hWd => ?_)
      have HWd := hid hWd; clear hWd
      clear k6
      have q8 : Only [] W WZ := Only.eq_drew (Only.refl [] _) HWd.out
      have OM := hid (OM.out.only q8 (by simp)); have OB := hid (OB.out.only q8 (by simp)); have QM := hid (QM.out.trans (q8.more (by simp)))
      clear q8 HWd
      have k6 := k_st OM.out
      refine rgn.Walk.ys (v := ?_) rfl rfl rfl ?_ ?_
      rotate_left 1
      · intro W' hW'
        go_simp
        try with_reducible rfl
      try simp only [Act.put, List.setIfInBounds_toArray, List.set_cons_zero, List.set_cons_succ]
      refine rgn.Walk.ys (v := ?_) rfl rfl rfl ?_ ?_
      rotate_left 1
      · intro W' hW'
        have q0 := l_ty (OB.out.only hW' (by simp))
        go_simp
        try with_reducible rfl
      try simp only [Act.put, List.setIfInBounds_toArray, List.set_cons_zero, List.set_cons_succ]
      refine rgn.Walk.ys (v := ?_) rfl rfl rfl ?_ ?_
      rotate_left 1
      · intro W' hW'
        go_simp
        try with_reducible rfl
      try simp only [Act.put, List.setIfInBounds_toArray, List.set_cons_zero, List.set_cons_succ]
      refine rgn.Walk.ys (v := ?_) rfl rfl rfl ?_ ?_
      rotate_left 1
      · intro W' hW'
        go_simp
        try with_reducible rfl
      try simp only [Act.put, List.setIfInBounds_toArray, List.set_cons_zero, List.set_cons_succ]
      refine rgn.Walk.yn rfl rfl rfl ?_
      try simp only [Act.put, List.setIfInBounds_toArray, List.set_cons_zero, List.set_cons_succ]
      refine rgn.Walk.yn rfl rfl rfl ?_
      try simp only [Act.put, List.setIfInBounds_toArray, List.set_cons_zero, List.set_cons_succ]
      refine rgn.Walk.yn rfl rfl rfl ?_
      try simp only [Act.put, List.setIfInBounds_toArray, List.set_cons_zero, List.set_cons_succ]
      refine rgn.Walk.yn rfl rfl rfl ?_
      try simp only [Act.put, List.setIfInBounds_toArray, List.set_cons_zero, List.set_cons_succ]
      refine rgn.Walk.yn rfl rfl rfl ?_
      try simp only [Act.put, List.setIfInBounds_toArray, List.set_cons_zero, List.set_cons_succ]
      refine rgn.Walk.yn rfl rfl rfl ?_
      try simp only [Act.put, List.setIfInBounds_toArray, List.set_cons_zero, List.set_cons_succ]
      refine rgn.Walk.yn rfl rfl rfl ?_
      try simp only [Act.put, List.setIfInBounds_toArray, List.set_cons_zero, List.set_cons_succ]
      refine rgn.Walk.yn rfl rfl rfl ?_
      try simp only [Act.put, List.setIfInBounds_toArray, List.set_cons_zero, List.set_cons_succ]
      refine rgn.Walk.ys (v := ?_) rfl rfl rfl ?_ ?_
      rotate_left 1
      · intro W' hW'
        go_simp
        try with_reducible rfl
      try simp only [Act.put, List.setIfInBounds_toArray, List.set_cons_zero, List.set_cons_succ]
      refine rgn.Walk.zs (NoPanic.normal ?_)
      have c4 := l_ty OB.out
      go_wp2_with fail
      refine (beginD _ m T tl s now draw OM.out HNow.out).mono ?_
      rintro x w3 ⟨A, n, c, rfl, hl, hr, hf, hO3, o3⟩
      have HL := hid hl; have HR := hid hr; have HF := hid hf; have OM := hid hO3; have HZ := hid QM.out.size; have QM := hid (QM.out.trans o3)
      clear hl hr hf hO3 o3
      clear k6 c4 t1 t3
      go_wp2_with fail
      go_ret
      exact ⟨A, n, c, rfl, HL.out, HR.out, fun b off e => Nat.le_trans HZ.out (HF.out b off e), OM.out, QM.out⟩
    · have t3 : (l.ty == 6) = false := by simp [g3]
      have HG : Hid (s.dgranted l s.of.yo s.of.sv now draw = (s, [])) := hid (by unfold Mc.dgranted; rw [if_neg (by simp [g1]), if_neg g3])
      rw [HG.out]
      clear g1 g3
      go_enter Try.func20, Try.ntmps20
      go_wp2_with fail
      refine wp_region_noPanic ?_
      refine rgn.regionT (R := Only []) (by kernel_rfl) (Only.refl []) (fun _ _ _ => Only.trans) (fun _ _ _ _ _ h => h) (.y 0 (.y 1 (.y 2 (.y 3 (.y 4 (.y 5 (.y 6 (.y 7 (.y 8 (.y 9 (.y 10 (.y 11 (.y 12 (.y 13 (.y 14 (.y 15 (.y 16 (.y 17 (.y 18 (.y 19 (.y 20 .z))))))))))))))))))))) (by kernel_rfl) (fun W hWd => ?_)
      have HWd := hid hWd; clear hWd
      have q8 : Only [] W1 W := Only.eq_drew (Only.refl [] _) HWd.out
      have OM := hid (OM.out.only q8 (by simp)); have OB := hid (OB.out.only q8 (by simp)); have QM := hid (QM.out.trans (q8.more (by simp)))
      clear q8 HWd
      refine rgn.Walk.ys (v := ?_) rfl rfl rfl ?_ ?_
      rotate_left 1
      · intro W' hW'
        go_simp
        try with_reducible rfl
      try simp only [Act.put, List.setIfInBounds_toArray, List.set_cons_zero, List.set_cons_succ]
      refine rgn.Walk.ys (v := ?_) rfl rfl rfl ?_ ?_
      rotate_left 1
      · intro W' hW'
        have q0 := l_op (OB.out.only hW' (by simp))
        go_simp
        try with_reducible rfl
      try simp only [Act.put, List.setIfInBounds_toArray, List.set_cons_zero, List.set_cons_succ]
      refine rgn.Walk.ys (v := ?_) rfl rfl rfl ?_ ?_
      rotate_left 1
      · intro W' hW'
        go_simp
        try with_reducible rfl
      try simp only [Act.put, List.setIfInBounds_toArray, List.set_cons_zero, List.set_cons_succ]
      refine rgn.Walk.ys (v := ?_) rfl rfl rfl ?_ ?_
      rotate_left 1
      · intro W' hW'
        go_simp
        try with_reducible rfl
      try simp only [Act.put, List.setIfInBounds_toArray, List.set_cons_zero, List.set_cons_succ]
      refine rgn.Walk.ys (v := ?_) rfl rfl rfl ?_ ?_
      rotate_left 1
      · intro W' hW'
        go_simp
        try with_reducible rfl
      try simp only [Act.put, List.setIfInBounds_toArray, List.set_cons_zero, List.set_cons_succ]
      refine rgn.Walk.ys (v := ?_) rfl rfl rfl ?_ ?_
      rotate_left 1
      · intro W' hW'
        have q0 := l_id (OB.out.only hW' (by simp))
        go_simp
        try with_reducible rfl
      try simp only [Act.put, List.setIfInBounds_toArray, List.set_cons_zero, List.set_cons_succ]
      refine rgn.Walk.ys (v := ?_) rfl rfl rfl ?_ ?_
      rotate_left 1
      · intro W' hW'
        go_simp
        try with_reducible rfl
      try simp only [Act.put, List.setIfInBounds_toArray, List.set_cons_zero, List.set_cons_succ]
      refine rgn.Walk.ys (v := ?_) rfl rfl rfl ?_ ?_
      rotate_left 1
      · intro W' hW'
        go_simp
        try with_reducible rfl
      try simp only [Act.put, List.setIfInBounds_toArray, List.set_cons_zero, List.set_cons_succ]
      refine rgn.Walk.ys (v := ?_) rfl rfl rfl ?_ ?_
      rotate_left 1
      · intro W' hW'
        go_simp
        try with_reducible rfl
      try simp only [Act.put, List.setIfInBounds_toArray, List.set_cons_zero, List.set_cons_succ]
      refine rgn.Walk.ys (v := ?_) rfl rfl rfl ?_ ?_
      rotate_left 1
      · intro W' hW'
        have q0 := k_id (OM.out.only hW' (by simp))
        go_simp
        try with_reducible rfl
      try simp only [Act.put, List.setIfInBounds_toArray, List.set_cons_zero, List.set_cons_succ]
      refine rgn.Walk.ys (v := ?_) rfl rfl rfl ?_ ?_
      rotate_left 1
      · intro W' hW'
        go_simp
        try with_reducible rfl
      try simp only [Act.put, List.setIfInBounds_toArray, List.set_cons_zero, List.set_cons_succ]
      refine rgn.Walk.ys (v := ?_) rfl rfl rfl ?_ ?_
      rotate_left 1
      · intro W' hW'
        go_simp
        try with_reducible rfl
      try simp only [Act.put, List.setIfInBounds_toArray, List.set_cons_zero, List.set_cons_succ]
      refine rgn.Walk.ys (v := ?_) rfl rfl rfl ?_ ?_
      rotate_left 1
      · intro W' hW'
        go_simp
        try with_reducible rfl
      try simp only [Act.put, List.setIfInBounds_toArray, List.set_cons_zero, List.set_cons_succ]
      refine rgn.Walk.ys (v := ?_) rfl rfl rfl ?_ ?_
      rotate_left 1
      · intro W' hW'
        go_simp
        try with_reducible rfl
      try simp only [Act.put, List.setIfInBounds_toArray, List.set_cons_zero, List.set_cons_succ]
      refine rgn.Walk.ys rfl rfl rfl (fun W' hW' => exec_mac _ _ rfl b 3 rfl _ _ _ _ _ _ (r_lmac (OB.out.only hW' (by simp))) Try.underlying25 rfl (by kernel_rfl)) ?_
      try simp only [Act.put, List.setIfInBounds_toArray, List.set_cons_zero, List.set_cons_succ]
      refine rgn.Walk.ys (v := ?_) rfl rfl rfl ?_ ?_
      rotate_left 1
      · intro W' hW'
        go_simp
        try with_reducible rfl
      try simp only [Act.put, List.setIfInBounds_toArray, List.set_cons_zero, List.set_cons_succ]
      refine rgn.Walk.ys (v := ?_) rfl rfl rfl ?_ ?_
      rotate_left 1
      · intro W' hW'
        go_simp
        try with_reducible rfl
      try simp only [Act.put, List.setIfInBounds_toArray, List.set_cons_zero, List.set_cons_succ]
      refine rgn.Walk.ys (v := ?_) rfl rfl rfl ?_ ?_
      rotate_left 1
      · intro W' hW'
        go_simp
        try with_reducible rfl
      try simp only [Act.put, List.setIfInBounds_toArray, List.set_cons_zero, List.set_cons_succ]
      refine rgn.Walk.ys rfl rfl rfl (fun W' hW' => exec_mac _ _ rfl m 0 rfl _ _ _ _ _ _ (r_mac (OM.out.only hW' (by simp))) Try.underlying25 rfl (by kernel_rfl)) ?_
      try simp only [Act.put, List.setIfInBounds_toArray, List.set_cons_zero, List.set_cons_succ]
      refine rgn.Walk.ys (v := ?_) rfl rfl rfl ?_ ?_
      rotate_left 1
      · intro W' hW'
        have q7 := ev.eqMacD 9998 l.c0 l.c1 l.c2 l.c3 l.c4 l.c5 s.c0 s.c1 s.c2 s.c3 s.c4 s.c5 W'
        rw [HMQ.out] at q7
        go_simp
        try with_reducible rfl
      try simp only [Act.put, List.setIfInBounds_toArray, List.set_cons_zero, List.set_cons_succ]
      refine rgn.Walk.ys (v := ?_) rfl rfl rfl ?_ ?_
      rotate_left 1
      · intro W' hW'
        go_simp
        try with_reducible rfl
      try simp only [Act.put, List.setIfInBounds_toArray, List.set_cons_zero, List.set_cons_succ]
      refine rgn.Walk.zs (NoPanic.normal ?_)
      clear e1 e2
      have k6 := k_st OM.out
      go_wp2_with fail
      refine wp_region_noPanic ?_
      refine rgn.regionT (R := Only []) (by kernel_rfl) (Only.refl []) (fun _ _ _ => Only.trans) (fun _ _ _ _ _ h => h) (.y 0 (.y 1 (.y 2 (.y 3 (.y 4 (.y 5 (.y 6 (.y 7 (.y 8 (.y 9 (.y 10 (.y 11 (.y 12 .z))))))))))))) (by kernel_rfl) (fun WZ hWd => ?_)
      have HWd := hid hWd; clear hWd
      clear k6
      have q8 : Only [] W WZ := Only.eq_drew (Only.refl [] _) HWd.out
      have OM := hid (OM.out.only q8 (by simp)); have OB := hid (OB.out.only q8 (by simp)); have QM := hid (QM.out.trans (q8.more (by simp)))
      clear q8 HWd
      have k6 := k_st OM.out
      refine rgn.Walk.ys (v := ?_) rfl rfl rfl ?_ ?_
      rotate_left 1
      · intro W' hW'
        go_simp
        try with_reducible rfl
      try simp only [Act.put, List.setIfInBounds_toArray, List.set_cons_zero, List.set_cons_succ]
      refine rgn.Walk.ys (v := ?_) rfl rfl rfl ?_ ?_
      rotate_left 1
      · intro W' hW'
        have q0 := l_ty (OB.out.only hW' (by simp))
        go_simp
        try with_reducible rfl
      try simp only [Act.put, List.setIfInBounds_toArray, List.set_cons_zero, List.set_cons_succ]
      refine rgn.Walk.ys (v := ?_) rfl rfl rfl ?_ ?_
      rotate_left 1
      · intro W' hW'
        go_simp
        try with_reducible rfl
      try simp only [Act.put, List.setIfInBounds_toArray, List.set_cons_zero, List.set_cons_succ]
      refine rgn.Walk.ys (v := ?_) rfl rfl rfl ?_ ?_
      rotate_left 1
      · intro W' hW'
        go_simp
        try with_reducible rfl
      try simp only [Act.put, List.setIfInBounds_toArray, List.set_cons_zero, List.set_cons_succ]
      refine rgn.Walk.yn rfl rfl rfl ?_
      try simp only [Act.put, List.setIfInBounds_toArray, List.set_cons_zero, List.set_cons_succ]
      refine rgn.Walk.yn rfl rfl rfl ?_
      try simp only [Act.put, List.setIfInBounds_toArray, List.set_cons_zero, List.set_cons_succ]
      refine rgn.Walk.yn rfl rfl rfl ?_
      try simp only [Act.put, List.setIfInBounds_toArray, List.set_cons_zero, List.set_cons_succ]
      refine rgn.Walk.yn rfl rfl rfl ?_
      try simp only [Act.put, List.setIfInBounds_toArray, List.set_cons_zero, List.set_cons_succ]
      refine rgn.Walk.yn rfl rfl rfl ?_
      try simp only [Act.put, List.setIfInBounds_toArray, List.set_cons_zero, List.set_cons_succ]
      refine rgn.Walk.yn rfl rfl rfl ?_
      try simp only [Act.put, List.setIfInBounds_toArray, List.set_cons_zero, List.set_cons_succ]
      refine rgn.Walk.yn rfl rfl rfl ?_
      try simp only [Act.put, List.setIfInBounds_toArray, List.set_cons_zero, List.set_cons_succ]
      refine rgn.Walk.yn rfl rfl rfl ?_
      try simp only [Act.put, List.setIfInBounds_toArray, List.set_cons_zero, List.set_cons_succ]
      refine rgn.Walk.ys (v := ?_) rfl rfl rfl ?_ ?_
      rotate_left 1
      · intro W' hW'
        go_simp
        try with_reducible rfl
      try simp only [Act.put, List.setIfInBounds_toArray, List.set_cons_zero, List.set_cons_succ]
      refine rgn.Walk.zs (NoPanic.normal ?_)
      have c4 := l_ty OB.out
      go_wp2_with fail
      go_ret
      exact step_none OM.out QM.out
set_option maxRecDepth 100000 in
set_option maxHeartbeats 8000000 in
theorem hearD4 (w : World) (m : Nat) (T : TypeId) (tl : List Value) (s : Mc) (l : Lm) (now draw : Int) (hO : Ob w m T (s.cs tl)) (hn : Tk now) (h1 : l.op = 2) (h2 : l.id = s.id) (h3 : macEq l s = true) (hs : s.st = 4) :
    Calls Try.prog 20 #[.pointer (some ⟨m, 0, none⟩), .agg l.cs, .int .i64 now, .int .i64 draw] w (StepE m T tl (s.dgranted l s.le.yo s.le.sv now draw).1 (s.dgranted l s.le.yo s.le.sv now draw).2 w) := by
  obtain ⟨b, hb⟩ : ∃ b, w.heap.size = b := ⟨_, rfl⟩
  obtain ⟨W1, hW1⟩ : ∃ W1, w.alloc (.cells l.cs 27) = W1 := ⟨_, rfl⟩
  have OB : Hid (Ob W1 b 27 l.cs) := hid (by rw [← hW1, ← hb]; exact Ob.new _ _ _)
  have o1 : Only [] w W1 := by rw [← hW1]; exact (Only.refl [] w).alloc _
  have OM := hid (hO.only o1 (by simp))
  have HN : Hid (m ≠ b) := hid (by have := hO.lt; omega)
  have HBM : Hid (b ∉ [m]) := hid (by have := hO.lt; simp; omega)
  have QM : Hid (Only [m] w W1) := hid (o1.more (by simp))
  have HNow := hid hn
  clear hO o1 hn
  have e1 : (l.op != 2) = false := by simp [h1]
  have e2 : (l.id != s.id) = false := by simp [h2]
  have HMQ : Hid (decide (l.c0 = s.c0 ∧ l.c1 = s.c1 ∧ l.c2 = s.c2 ∧ l.c3 = s.c3 ∧ l.c4 = s.c4 ∧ l.c5 = s.c5) = true) := hid h3
  clear h1 h2 h3
  have f1 : (s.st == 1) = false := by simp [hs]
  have f2 : (s.st == 2) = false := by simp [hs]
  have f4 : (s.st == 4) = true := by simp [hs]
  clear hs
  by_cases g1 : l.ty = 5
  · have t1 : (l.ty == 5) = true := by simp [g1]
    have t3 : (l.ty == 6) = false := by simp [g1]
    by_cases g2 : l.yo = s.le.yo
    · have t2 : (l.yo == s.le.yo) = true := by simp [g2]
      have HG : Hid (s.dgranted l s.le.yo s.le.sv now draw = (s.bound l s.le.sv now, [])) := hid (if_pos ⟨g1, g2⟩)
      rw [HG.out]
      clear g1 g2
      go_enter Try.func20, Try.ntmps20
      go_wp2_with fail
      refine wp_region_noPanic ?_
      refine rgn.regionT (R := Only []) (by kernel_rfl) (Only.refl []) (fun _ _ _ => Only.trans) (fun _ _ _ _ _ h => h) (.y 0 (.y 1 (.y 2 (.y 3 (.y 4 (.y 5 (.y 6 (.y 7 (.y 8 (.y 9 (.y 10 (.y 11 (.y 12 (.y 13 (.y 14 (.y 15 (.y 16 (.y 17 (.y 18 (.y 19 (.y 20 .z))))))))))))))))))))) (by kernel_rfl) (fun W hWd => ?_)
      have HWd := hid hWd; clear hWd
      have q8 : Only [] W1 W := Only.eq_drew (Only.refl [] _) HWd.out
      have OM := hid (OM.out.only q8 (by simp)); have OB := hid (OB.out.only q8 (by simp)); have QM := hid (QM.out.trans (q8.more (by simp)))
      clear q8 HWd
      refine rgn.Walk.ys (v := ?_) rfl rfl rfl ?_ ?_
      rotate_left 1
      · intro W' hW'
        go_simp
        try with_reducible rfl
      try simp only [Act.put, List.setIfInBounds_toArray, List.set_cons_zero, List.set_cons_succ]
      refine rgn.Walk.ys (v := ?_) rfl rfl rfl ?_ ?_
      rotate_left 1
      · intro W' hW'
        have q0 := l_op (OB.out.only hW' (by simp))
        go_simp
        try with_reducible rfl
      try simp only [Act.put, List.setIfInBounds_toArray, List.set_cons_zero, List.set_cons_succ]
      refine rgn.Walk.ys (v := ?_) rfl rfl rfl ?_ ?_
      rotate_left 1
      · intro W' hW'
        go_simp
        try with_reducible rfl
      try simp only [Act.put, List.setIfInBounds_toArray, List.set_cons_zero, List.set_cons_succ]
      refine rgn.Walk.ys (v := ?_) rfl rfl rfl ?_ ?_
      rotate_left 1
      · intro W' hW'
        go_simp
        try with_reducible rfl
      try simp only [Act.put, List.setIfInBounds_toArray, List.set_cons_zero, List.set_cons_succ]
      refine rgn.Walk.ys (v := ?_) rfl rfl rfl ?_ ?_
      rotate_left 1
      · intro W' hW'
        go_simp
        try with_reducible rfl
      try simp only [Act.put, List.setIfInBounds_toArray, List.set_cons_zero, List.set_cons_succ]
      refine rgn.Walk.ys (v := ?_) rfl rfl rfl ?_ ?_
      rotate_left 1
      · intro W' hW'
        have q0 := l_id (OB.out.only hW' (by simp))
        go_simp
        try with_reducible rfl
      try simp only [Act.put, List.setIfInBounds_toArray, List.set_cons_zero, List.set_cons_succ]
      refine rgn.Walk.ys (v := ?_) rfl rfl rfl ?_ ?_
      rotate_left 1
      · intro W' hW'
        go_simp
        try with_reducible rfl
      try simp only [Act.put, List.setIfInBounds_toArray, List.set_cons_zero, List.set_cons_succ]
      refine rgn.Walk.ys (v := ?_) rfl rfl rfl ?_ ?_
      rotate_left 1
      · intro W' hW'
        go_simp
        try with_reducible rfl
      try simp only [Act.put, List.setIfInBounds_toArray, List.set_cons_zero, List.set_cons_succ]
      refine rgn.Walk.ys (v := ?_) rfl rfl rfl ?_ ?_
      rotate_left 1
      · intro W' hW'
        go_simp
        try with_reducible rfl
      try simp only [Act.put, List.setIfInBounds_toArray, List.set_cons_zero, List.set_cons_succ]
      refine rgn.Walk.ys (v := ?_) rfl rfl rfl ?_ ?_
      rotate_left 1
      · intro W' hW'
        have q0 := k_id (OM.out.only hW' (by simp))
        go_simp
        try with_reducible rfl
      try simp only [Act.put, List.setIfInBounds_toArray, List.set_cons_zero, List.set_cons_succ]
      refine rgn.Walk.ys (v := ?_) rfl rfl rfl ?_ ?_
      rotate_left 1
      · intro W' hW'
        go_simp
        try with_reducible rfl
      try simp only [Act.put, List.setIfInBounds_toArray, List.set_cons_zero, List.set_cons_succ]
      refine rgn.Walk.ys (v := ?_) rfl rfl rfl ?_ ?_
      rotate_left 1
      · intro W' hW'
        go_simp
        try with_reducible rfl
      try simp only [Act.put, List.setIfInBounds_toArray, List.set_cons_zero, List.set_cons_succ]
      refine rgn.Walk.ys (v := ?_) rfl rfl rfl ?_ ?_
      rotate_left 1
      · intro W' hW'
        go_simp
        try with_reducible rfl
      try simp only [Act.put, List.setIfInBounds_toArray, List.set_cons_zero, List.set_cons_succ]
      refine rgn.Walk.ys (v := ?_) rfl rfl rfl ?_ ?_
      rotate_left 1
      · intro W' hW'
        go_simp
        try with_reducible rfl
      try simp only [Act.put, List.setIfInBounds_toArray, List.set_cons_zero, List.set_cons_succ]
      refine rgn.Walk.ys rfl rfl rfl (fun W' hW' => exec_mac _ _ rfl b 3 rfl _ _ _ _ _ _ (r_lmac (OB.out.only hW' (by simp))) Try.underlying25 rfl (by kernel_rfl)) ?_
      try simp only [Act.put, List.setIfInBounds_toArray, List.set_cons_zero, List.set_cons_succ]
      refine rgn.Walk.ys (v := ?_) rfl rfl rfl ?_ ?_
      rotate_left 1
      · intro W' hW'
        go_simp
        try with_reducible rfl
      try simp only [Act.put, List.setIfInBounds_toArray, List.set_cons_zero, List.set_cons_succ]
      refine rgn.Walk.ys (v := ?_) rfl rfl rfl ?_ ?_
      rotate_left 1
      · intro W' hW'
        go_simp
        try with_reducible rfl
      try simp only [Act.put, List.setIfInBounds_toArray, List.set_cons_zero, List.set_cons_succ]
      refine rgn.Walk.ys (v := ?_) rfl rfl rfl ?_ ?_
      rotate_left 1
      · intro W' hW'
        go_simp
        try with_reducible rfl
      try simp only [Act.put, List.setIfInBounds_toArray, List.set_cons_zero, List.set_cons_succ]
      refine rgn.Walk.ys rfl rfl rfl (fun W' hW' => exec_mac _ _ rfl m 0 rfl _ _ _ _ _ _ (r_mac (OM.out.only hW' (by simp))) Try.underlying25 rfl (by kernel_rfl)) ?_
      try simp only [Act.put, List.setIfInBounds_toArray, List.set_cons_zero, List.set_cons_succ]
      refine rgn.Walk.ys (v := ?_) rfl rfl rfl ?_ ?_
      rotate_left 1
      · intro W' hW'
        have q7 := ev.eqMacD 9998 l.c0 l.c1 l.c2 l.c3 l.c4 l.c5 s.c0 s.c1 s.c2 s.c3 s.c4 s.c5 W'
        rw [HMQ.out] at q7
        go_simp
        try with_reducible rfl
      try simp only [Act.put, List.setIfInBounds_toArray, List.set_cons_zero, List.set_cons_succ]
      refine rgn.Walk.ys (v := ?_) rfl rfl rfl ?_ ?_
      rotate_left 1
      · intro W' hW'
        go_simp
        try with_reducible rfl
      try simp only [Act.put, List.setIfInBounds_toArray, List.set_cons_zero, List.set_cons_succ]
      refine rgn.Walk.zs (NoPanic.normal ?_)
      clear e1 e2
      have k6 := k_st OM.out
      go_wp2_with fail
      refine wp_region_noPanic ?_
      refine rgn.regionT (R := Only []) (by kernel_rfl) (Only.refl []) (fun _ _ _ => Only.trans) (fun _ _ _ _ _ h => h) (.y 0 (.y 1 (.y 2 (.y 3 (.y 4 (.y 5 (.y 6 (.y 7 (.y 8 (.y 9 (.y 10 (.y 11 (.y 12 .z))))))))))))) (by kernel_rfl) (fun WZ hWd => ?_)
      have HWd := hid hWd; clear hWd
      clear k6
      have q8 : Only [] W WZ := Only.eq_drew (Only.refl [] _) HWd.out
      have OM := hid (OM.out.only q8 (by simp)); have OB := hid (OB.out.only q8 (by simp)); have QM := hid (QM.out.trans (q8.more (by simp)))
      clear q8 HWd
      have k6 := k_st OM.out
      refine rgn.Walk.ys (v := ?_) rfl rfl rfl ?_ ?_
      rotate_left 1
      · intro W' hW'
        go_simp
        try with_reducible rfl
      try simp only [Act.put, List.setIfInBounds_toArray, List.set_cons_zero, List.set_cons_succ]
      refine rgn.Walk.ys (v := ?_) rfl rfl rfl ?_ ?_
      rotate_left 1
      · intro W' hW'
        have q0 := l_ty (OB.out.only hW' (by simp))
        go_simp
        try with_reducible rfl
      try simp only [Act.put, List.setIfInBounds_toArray, List.set_cons_zero, List.set_cons_succ]
      refine rgn.Walk.ys (v := ?_) rfl rfl rfl ?_ ?_
      rotate_left 1
      · intro W' hW'
        go_simp
        try with_reducible rfl
      try simp only [Act.put, List.setIfInBounds_toArray, List.set_cons_zero, List.set_cons_succ]
      refine rgn.Walk.ys (v := ?_) rfl rfl rfl ?_ ?_
      rotate_left 1
      · intro W' hW'
        go_simp
        try with_reducible rfl
      try simp only [Act.put, List.setIfInBounds_toArray, List.set_cons_zero, List.set_cons_succ]
      refine rgn.Walk.ys (v := ?_) rfl rfl rfl ?_ ?_
      rotate_left 1
      · intro W' hW'
        go_simp
        try with_reducible rfl
      try simp only [Act.put, List.setIfInBounds_toArray, List.set_cons_zero, List.set_cons_succ]
      refine rgn.Walk.ys (v := ?_) rfl rfl rfl ?_ ?_
      rotate_left 1
      · intro W' hW'
        have q0 := l_yo (OB.out.only hW' (by simp))
        go_simp
        try with_reducible rfl
      try simp only [Act.put, List.setIfInBounds_toArray, List.set_cons_zero, List.set_cons_succ]
      refine rgn.Walk.ys (v := ?_) rfl rfl rfl ?_ ?_
      rotate_left 1
      · intro W' hW'
        go_simp
        try with_reducible rfl
      try simp only [Act.put, List.setIfInBounds_toArray, List.set_cons_zero, List.set_cons_succ]
      refine rgn.Walk.ys (v := ?_) rfl rfl rfl ?_ ?_
      rotate_left 1
      · intro W' hW'
        go_simp
        try with_reducible rfl
      try simp only [Act.put, List.setIfInBounds_toArray, List.set_cons_zero, List.set_cons_succ]
      refine rgn.Walk.ys (v := ?_) rfl rfl rfl ?_ ?_
      rotate_left 1
      · intro W' hW'
        go_simp
        try with_reducible rfl
      try simp only [Act.put, List.setIfInBounds_toArray, List.set_cons_zero, List.set_cons_succ]
      refine rgn.Walk.ys (v := ?_) rfl rfl rfl ?_ ?_
      rotate_left 1
      · intro W' hW'
        go_simp
        try with_reducible rfl
      try simp only [Act.put, List.setIfInBounds_toArray, List.set_cons_zero, List.set_cons_succ]
      refine rgn.Walk.ys (v := ?_) rfl rfl rfl ?_ ?_
      rotate_left 1
      · intro W' hW'
        have q0 := k_le_yo (OM.out.only hW' (by simp))
        go_simp
        try with_reducible rfl
      try simp only [Act.put, List.setIfInBounds_toArray, List.set_cons_zero, List.set_cons_succ]
      refine rgn.Walk.ys (v := ?_) rfl rfl rfl ?_ ?_
      rotate_left 1
      · intro W' hW'
        go_simp
        try with_reducible rfl
      try simp only [Act.put, List.setIfInBounds_toArray, List.set_cons_zero, List.set_cons_succ]
      refine rgn.Walk.ys (v := ?_) rfl rfl rfl ?_ ?_
      rotate_left 1
      · intro W' hW'
        go_simp
        try with_reducible rfl
      try simp only [Act.put, List.setIfInBounds_toArray, List.set_cons_zero, List.set_cons_succ]
      refine rgn.Walk.zs (NoPanic.normal ?_)
      have c4 := l_ty OB.out
      go_wp2_with fail
      refine wp_region_noPanic ?_
      refine rgn.regionT (R := Only [m]) (by kernel_rfl) (Only.refl [m]) (fun _ _ _ => Only.trans) (fun _ _ _ _ _ h => h) (.y 0 (.y 1 (.y 2 (.y 3 (.y 4 (.y 5 (.y 7 (.e 6 (.e 8 .z))))))))) (by kernel_rfl) (fun WY hWd => ?_)
      have HWd := hid hWd; clear hWd
      clear k6 c4
      have q8 : Only [] WZ WY := Only.eq_drew (Only.refl [] _) HWd.out
      have OM := hid (OM.out.only q8 (by simp)); have OB := hid (OB.out.only q8 (by simp)); have QM := hid (QM.out.trans (q8.more (by simp)))
      clear q8 HWd
      refine rgn.Walk.ys (v := ?_) rfl rfl rfl ?_ ?_
      rotate_left 1
      · intro W' hW'
        go_simp
        try with_reducible rfl
      try simp only [Act.put, List.setIfInBounds_toArray, List.set_cons_zero, List.set_cons_succ]
      refine rgn.Walk.ys rfl rfl rfl (fun W' hW' => exec_lm _ _ rfl b 0 rfl l (r_all (OB.out.only hW' HBM.out)) Try.underlying27 rfl (by kernel_rfl)) ?_
      try simp only [Act.put, List.setIfInBounds_toArray, List.set_cons_zero, List.set_cons_succ]
      refine rgn.Walk.ys (v := ?_) rfl rfl rfl ?_ ?_
      rotate_left 1
      · intro W' hW'
        go_simp
        try with_reducible rfl
      try simp only [Act.put, List.setIfInBounds_toArray, List.set_cons_zero, List.set_cons_succ]
      refine rgn.Walk.ys (v := ?_) rfl rfl rfl ?_ ?_
      rotate_left 1
      · intro W' hW'
        go_simp
        try with_reducible rfl
      try simp only [Act.put, List.setIfInBounds_toArray, List.set_cons_zero, List.set_cons_succ]
      refine rgn.Walk.ys (v := ?_) rfl rfl rfl ?_ ?_
      rotate_left 1
      · intro W' hW'
        go_simp
        try with_reducible rfl
      try simp only [Act.put, List.setIfInBounds_toArray, List.set_cons_zero, List.set_cons_succ]
      refine rgn.Walk.ys (v := ?_) rfl rfl rfl ?_ ?_
      rotate_left 1
      · intro W' hW'
        go_simp
        try with_reducible rfl
      try simp only [Act.put, List.setIfInBounds_toArray, List.set_cons_zero, List.set_cons_succ]
      refine rgn.Walk.ys (v := ?_) rfl rfl rfl ?_ ?_
      rotate_left 1
      · intro W' hW'
        go_simp
        try with_reducible rfl
      try simp only [Act.put, List.setIfInBounds_toArray, List.set_cons_zero, List.set_cons_succ]
      refine rgn.Walk.es ?_
      refine rgn.stepE rfl rfl (fun K hK => ?_)
      have qq := k_le_sv OM.out
      go_simp
      refine hK _ _ (Only.refl _ _) ?_
      clear hK K qq
      try simp only [Act.put, List.setIfInBounds_toArray, List.set_cons_zero, List.set_cons_succ]
      refine rgn.Walk.es ?_
      refine rgn.stepE rfl rfl (fun K hK => ?_)
      go_simp
      refine (bindsD _ m T tl s l s.le.sv now OM.out HNow.out).mono ?_
      rintro x w4 ⟨rfl, hO4, o4⟩
      refine hK _ _ o4 ?_
      clear hK K
      try simp only [Act.put, List.setIfInBounds_toArray, List.set_cons_zero, List.set_cons_succ]
      have OM := hid hO4; have QM := hid (QM.out.trans o4); have OB := hid (OB.out.only o4 HBM.out)
      clear hO4 o4
      refine rgn.Walk.zs (NoPanic.normal ?_)
      have c4 := l_ty OB.out
      go_wp2_with fail
      go_ret
      exact step_none OM.out QM.out
    · have t2 : (l.yo == s.le.yo) = false := by simp [g2]
      have HG : Hid (s.dgranted l s.le.yo s.le.sv now draw = (s, [])) := hid (by unfold Mc.dgranted; rw [if_neg (by simp [g2]), if_neg (by omega)])
      rw [HG.out]
      clear g1 g2
      go_enter Try.func20, Try.ntmps20
      go_wp2_with fail
      refine wp_region_noPanic ?_
      refine rgn.regionT (R := Only []) (by kernel_rfl) (Only.refl []) (fun _ _ _ => Only.trans) (fun _ _ _ _ _ h => h) (.y 0 (.y 1 (.y 2 (.y 3 (.y 4 (.y 5 (.y 6 (.y 7 (.y 8 (.y 9 (.y 10 (.y 11 (.y 12 (.y 13 (.y 14 (.y 15 (.y 16 (.y 17 (.y 18 (.y 19 (.y 20 .z))))))))))))))))))))) (by kernel_rfl) (fun W hWd => ?_)
      have HWd := hid hWd; clear hWd
      have q8 : Only [] W1 W := Only.eq_drew (Only.refl [] _) HWd.out
      have OM := hid (OM.out.only q8 (by simp)); have OB := hid (OB.out.only q8 (by simp)); have QM := hid (QM.out.trans (q8.more (by simp)))
      clear q8 HWd
      refine rgn.Walk.ys (v := ?_) rfl rfl rfl ?_ ?_
      rotate_left 1
      · intro W' hW'
        go_simp
        try with_reducible rfl
      try simp only [Act.put, List.setIfInBounds_toArray, List.set_cons_zero, List.set_cons_succ]
      refine rgn.Walk.ys (v := ?_) rfl rfl rfl ?_ ?_
      rotate_left 1
      · intro W' hW'
        have q0 := l_op (OB.out.only hW' (by simp))
        go_simp
        try with_reducible rfl
      try simp only [Act.put, List.setIfInBounds_toArray, List.set_cons_zero, List.set_cons_succ]
      refine rgn.Walk.ys (v := ?_) rfl rfl rfl ?_ ?_
      rotate_left 1
      · intro W' hW'
        go_simp
        try with_reducible rfl
      try simp only [Act.put, List.setIfInBounds_toArray, List.set_cons_zero, List.set_cons_succ]
      refine rgn.Walk.ys (v := ?_) rfl rfl rfl ?_ ?_
      rotate_left 1
      · intro W' hW'
        go_simp
        try with_reducible rfl
      try simp only [Act.put, List.setIfInBounds_toArray, List.set_cons_zero, List.set_cons_succ]
      refine rgn.Walk.ys (v := ?_) rfl rfl rfl ?_ ?_
      rotate_left 1
      · intro W' hW'
        go_simp
        try with_reducible rfl
      try simp only [Act.put, List.setIfInBounds_toArray, List.set_cons_zero, List.set_cons_succ]
      refine rgn.Walk.ys (v := ?_) rfl rfl rfl ?_ ?_
      rotate_left 1
      · intro W' hW'
        have q0 := l_id (OB.out.only hW' (by simp))
        go_simp
        try with_reducible rfl
      try simp only [Act.put, List.setIfInBounds_toArray, List.set_cons_zero, List.set_cons_succ]
      refine rgn.Walk.ys (v := ?_) rfl rfl rfl ?_ ?_
      rotate_left 1
      · intro W' hW'
        go_simp
        try with_reducible rfl
      try simp only [Act.put, List.setIfInBounds_toArray, List.set_cons_zero, List.set_cons_succ]
      refine rgn.Walk.ys (v := ?_) rfl rfl rfl ?_ ?_
      rotate_left 1
      · intro W' hW'
        go_simp
        try with_reducible rfl
      try simp only [Act.put, List.setIfInBounds_toArray, List.set_cons_zero, List.set_cons_succ]
      refine rgn.Walk.ys (v := ?_) rfl rfl rfl ?_ ?_
      rotate_left 1
      · intro W' hW'
        go_simp
        try with_reducible rfl
      try simp only [Act.put, List.setIfInBounds_toArray, List.set_cons_zero, List.set_cons_succ]
      refine rgn.Walk.ys (v := ?_) rfl rfl rfl ?_ ?_
      rotate_left 1
      · intro W' hW'
        have q0 := k_id (OM.out.only hW' (by simp))
        go_simp
        try with_reducible rfl
      try simp only [Act.put, List.setIfInBounds_toArray, List.set_cons_zero, List.set_cons_succ]
      refine rgn.Walk.ys (v := ?_) rfl rfl rfl ?_ ?_
      rotate_left 1
      · intro W' hW'
        go_simp
        try with_reducible rfl
      try simp only [Act.put, List.setIfInBounds_toArray, List.set_cons_zero, List.set_cons_succ]
      refine rgn.Walk.ys (v := ?_) rfl rfl rfl ?_ ?_
      rotate_left 1
      · intro W' hW'
        go_simp
        try with_reducible rfl
      try simp only [Act.put, List.setIfInBounds_toArray, List.set_cons_zero, List.set_cons_succ]
      refine rgn.Walk.ys (v := ?_) rfl rfl rfl ?_ ?_
      rotate_left 1
      · intro W' hW'
        go_simp
        try with_reducible rfl
      try simp only [Act.put, List.setIfInBounds_toArray, List.set_cons_zero, List.set_cons_succ]
      refine rgn.Walk.ys (v := ?_) rfl rfl rfl ?_ ?_
      rotate_left 1
      · intro W' hW'
        go_simp
        try with_reducible rfl
      try simp only [Act.put, List.setIfInBounds_toArray, List.set_cons_zero, List.set_cons_succ]
      refine rgn.Walk.ys rfl rfl rfl (fun W' hW' => exec_mac _ _ rfl b 3 rfl _ _ _ _ _ _ (r_lmac (OB.out.only hW' (by simp))) Try.underlying25 rfl (by kernel_rfl)) ?_
      try simp only [Act.put, List.setIfInBounds_toArray, List.set_cons_zero, List.set_cons_succ]
      refine rgn.Walk.ys (v := ?_) rfl rfl rfl ?_ ?_
      rotate_left 1
      · intro W' hW'
        go_simp
        try with_reducible rfl
      try simp only [Act.put, List.setIfInBounds_toArray, List.set_cons_zero, List.set_cons_succ]
      refine rgn.Walk.ys (v := ?_) rfl rfl rfl ?_ ?_
      rotate_left 1
      · intro W' hW'
        go_simp
        try with_reducible rfl
      try simp only [Act.put, List.setIfInBounds_toArray, List.set_cons_zero, List.set_cons_succ]
      refine rgn.Walk.ys (v := ?_) rfl rfl rfl ?_ ?_
      rotate_left 1
      · intro W' hW'
        go_simp
        try with_reducible rfl
      try simp only [Act.put, List.setIfInBounds_toArray, List.set_cons_zero, List.set_cons_succ]
      refine rgn.Walk.ys rfl rfl rfl (fun W' hW' => exec_mac _ _ rfl m 0 rfl _ _ _ _ _ _ (r_mac (OM.out.only hW' (by simp))) Try.underlying25 rfl (by kernel_rfl)) ?_
      try simp only [Act.put, List.setIfInBounds_toArray, List.set_cons_zero, List.set_cons_succ]
      refine rgn.Walk.ys (v := ?_) rfl rfl rfl ?_ ?_
      rotate_left 1
      · intro W' hW'
        have q7 := ev.eqMacD 9998 l.c0 l.c1 l.c2 l.c3 l.c4 l.c5 s.c0 s.c1 s.c2 s.c3 s.c4 s.c5 W'
        rw [HMQ.out] at q7
        go_simp
        try with_reducible rfl
      try simp only [Act.put, List.setIfInBounds_toArray, List.set_cons_zero, List.set_cons_succ]
      refine rgn.Walk.ys (v := ?_) rfl rfl rfl ?_ ?_
      rotate_left 1
      · intro W' hW'
        go_simp
        try with_reducible rfl
      try simp only [Act.put, List.setIfInBounds_toArray, List.set_cons_zero, List.set_cons_succ]
      refine rgn.Walk.zs (NoPanic.normal ?_)
      clear e1 e2
      have k6 := k_st OM.out
      go_wp2_with fail
      refine wp_region_noPanic ?_
      refine rgn.regionT (R := Only []) (by kernel_rfl) (Only.refl []) (fun _ _ _ => Only.trans) (fun _ _ _ _ _ h => h) (.y 0 (.y 1 (.y 2 (.y 3 (.y 4 (.y 5 (.y 6 (.y 7 (.y 8 (.y 9 (.y 10 (.y 11 (.y 12 .z))))))))))))) (by kernel_rfl) (fun WZ hWd => ?_)
      have HWd := hid hWd; clear hWd
      clear k6
      have q8 : Only [] W WZ := Only.eq_drew (Only.refl [] _) HWd.out
      have OM := hid (OM.out.only q8 (by simp)); have OB := hid (OB.out.only q8 (by simp)); have QM := hid (QM.out.trans (q8.more (by simp)))
      clear q8 HWd
      have k6 := k_st OM.out
      refine rgn.Walk.ys (v := ?_) rfl rfl rfl ?_ ?_
      rotate_left 1
      · intro W' hW'
        go_simp
        try with_reducible rfl
      try simp only [Act.put, List.setIfInBounds_toArray, List.set_cons_zero, List.set_cons_succ]
      refine rgn.Walk.ys (v := ?_) rfl rfl rfl ?_ ?_
      rotate_left 1
      · intro W' hW'
        have q0 := l_ty (OB.out.only hW' (by simp))
        go_simp
        try with_reducible rfl
      try simp only [Act.put, List.setIfInBounds_toArray, List.set_cons_zero, List.set_cons_succ]
      refine rgn.Walk.ys (v := ?_) rfl rfl rfl ?_ ?_
      rotate_left 1
      · intro W' hW'
        go_simp
        try with_reducible rfl
      try simp only [Act.put, List.setIfInBounds_toArray, List.set_cons_zero, List.set_cons_succ]
      refine rgn.Walk.ys (v := ?_) rfl rfl rfl ?_ ?_
      rotate_left 1
      · intro W' hW'
        go_simp
        try with_reducible rfl
      try simp only [Act.put, List.setIfInBounds_toArray, List.set_cons_zero, List.set_cons_succ]
      refine rgn.Walk.ys (v := ?_) rfl rfl rfl ?_ ?_
      rotate_left 1
      · intro W' hW'
        go_simp
        try with_reducible rfl
      try simp only [Act.put, List.setIfInBounds_toArray, List.set_cons_zero, List.set_cons_succ]
      refine rgn.Walk.ys (v := ?_) rfl rfl rfl ?_ ?_
      rotate_left 1
      · intro W' hW'
        have q0 := l_yo (OB.out.only hW' (by simp))
        go_simp
        try with_reducible rfl
      try simp only [Act.put, List.setIfInBounds_toArray, List.set_cons_zero, List.set_cons_succ]
      refine rgn.Walk.ys (v := ?_) rfl rfl rfl ?_ ?_
      rotate_left 1
      · intro W' hW'
        go_simp
        try with_reducible rfl
      try simp only [Act.put, List.setIfInBounds_toArray, List.set_cons_zero, List.set_cons_succ]
      refine rgn.Walk.ys (v := ?_) rfl rfl rfl ?_ ?_
      rotate_left 1
      · intro W' hW'
        go_simp
        try with_reducible rfl
      try simp only [Act.put, List.setIfInBounds_toArray, List.set_cons_zero, List.set_cons_succ]
      refine rgn.Walk.ys (v := ?_) rfl rfl rfl ?_ ?_
      rotate_left 1
      · intro W' hW'
        go_simp
        try with_reducible rfl
      try simp only [Act.put, List.setIfInBounds_toArray, List.set_cons_zero, List.set_cons_succ]
      refine rgn.Walk.ys (v := ?_) rfl rfl rfl ?_ ?_
      rotate_left 1
      · intro W' hW'
        go_simp
        try with_reducible rfl
      try simp only [Act.put, List.setIfInBounds_toArray, List.set_cons_zero, List.set_cons_succ]
      refine rgn.Walk.ys (v := ?_) rfl rfl rfl ?_ ?_
      rotate_left 1
      · intro W' hW'
        have q0 := k_le_yo (OM.out.only hW' (by simp))
        go_simp
        try with_reducible rfl
      try simp only [Act.put, List.setIfInBounds_toArray, List.set_cons_zero, List.set_cons_succ]
      refine rgn.Walk.ys (v := ?_) rfl rfl rfl ?_ ?_
      rotate_left 1
      · intro W' hW'
        go_simp
        try with_reducible rfl
      try simp only [Act.put, List.setIfInBounds_toArray, List.set_cons_zero, List.set_cons_succ]
      refine rgn.Walk.ys (v := ?_) rfl rfl rfl ?_ ?_
      rotate_left 1
      · intro W' hW'
        go_simp
        try with_reducible rfl
      try simp only [Act.put, List.setIfInBounds_toArray, List.set_cons_zero, List.set_cons_succ]
      refine rgn.Walk.zs (NoPanic.normal ?_)
      have c4 := l_ty OB.out
      go_wp2_with fail
      go_ret
      exact step_none OM.out QM.out
  · have t1 : (l.ty == 5) = false := by simp [g1]
    by_cases g3 : l.ty = 6
    · have t3 : (l.ty == 6) = true := by simp [g3]
      have HG : Hid (s.dgranted l s.le.yo s.le.sv now draw = (s.dbegin now draw, [(s.dbegin now draw).sent 1 0 0])) := hid (by unfold Mc.dgranted; rw [if_neg (by simp [g1]), if_pos g3])
      rw [HG.out]
      clear g1 g3
      go_enter Try.func20, Try.ntmps20
      go_wp2_with fail
      refine wp_region_noPanic ?_
      refine rgn.regionT (R := Only []) (by kernel_rfl) (Only.refl []) (fun _ _ _ => Only.trans) (fun _ _ _ _ _ h => h) (.y 0 (.y 1 (.y 2 (.y 3 (.y 4 (.y 5 (.y 6 (.y 7 (.y 8 (.y 9 (.y 10 (.y 11 (.y 12 (.y 13 (.y 14 (.y 15 (.y 16 (.y 17 (.y 18 (.y 19 (.y 20 .z))))))))))))))))))))) (by kernel_rfl) (fun W hWd => ?_)
      have HWd := hid hWd; clear hWd
      have q8 : Only [] W1 W := Only.eq_drew (Only.refl [] _) HWd.out
      have OM := hid (OM.out.only q8 (by simp)); have OB := hid (OB.out.only q8 (by simp)); have QM := hid (QM.out.trans (q8.more (by simp)))
      clear q8 HWd
      refine rgn.Walk.ys (v := ?_) rfl rfl rfl ?_ ?_
      rotate_left 1
      · intro W' hW'
        go_simp
        try with_reducible rfl
      try simp only [Act.put, List.setIfInBounds_toArray, List.set_cons_zero, List.set_cons_succ]
      refine rgn.Walk.ys (v := ?_) rfl rfl rfl ?_ ?_
      rotate_left 1
      · intro W' hW'
        have q0 := l_op (OB.out.only hW' (by simp))
        go_simp
        try with_reducible rfl
      try simp only [Act.put, List.setIfInBounds_toArray, List.set_cons_zero, List.set_cons_succ]
      refine rgn.Walk.ys (v := ?_) rfl rfl rfl ?_ ?_
      rotate_left 1
      · intro W' hW'
        go_simp
        try with_reducible rfl
      try simp only [Act.put, List.setIfInBounds_toArray, List.set_cons_zero, List.set_cons_succ]
      refine rgn.Walk.ys (v := ?_) rfl rfl rfl ?_ ?_
      rotate_left 1
      · intro W' hW'
        go_simp
        try with_reducible rfl
      try simp only [Act.put, List.setIfInBounds_toArray, List.set_cons_zero, List.set_cons_succ]
      refine rgn.Walk.ys (v := ?_) rfl rfl rfl ?_ ?_
      rotate_left 1
      · intro W' hW'
        go_simp
        try with_reducible rfl
      try simp only [Act.put, List.setIfInBounds_toArray, List.set_cons_zero, List.set_cons_succ]
      refine rgn.Walk.ys (v := ?_) rfl rfl rfl ?_ ?_
      rotate_left 1
      · intro W' hW'
        have q0 := l_id (OB.out.only hW' (by simp))
        go_simp
        try with_reducible rfl
      try simp only [Act.put, List.setIfInBounds_toArray, List.set_cons_zero, List.set_cons_succ]
      refine rgn.Walk.ys (v := ?_) rfl rfl rfl ?_ ?_
      rotate_left 1
      · intro W' hW'
        go_simp
        try with_reducible rfl
      try simp only [Act.put, List.setIfInBounds_toArray, List.set_cons_zero, List.set_cons_succ]
      refine rgn.Walk.ys (v := ?_) rfl rfl rfl ?_ ?_
      rotate_left 1
      · intro W' hW'
        go_simp
        try with_reducible rfl
      try simp only [Act.put, List.setIfInBounds_toArray, List.set_cons_zero, List.set_cons_succ]
      refine rgn.Walk.ys (v := ?_) rfl rfl rfl ?_ ?_
      rotate_left 1
      · intro W' hW'
        go_simp
        try with_reducible rfl
      try simp only [Act.put, List.setIfInBounds_toArray, List.set_cons_zero, List.set_cons_succ]
      refine rgn.Walk.ys (v := ?_) rfl rfl rfl ?_ ?_
      rotate_left 1
      · intro W' hW'
        have q0 := k_id (OM.out.only hW' (by simp))
        go_simp
        try with_reducible rfl
      try simp only [Act.put, List.setIfInBounds_toArray, List.set_cons_zero, List.set_cons_succ]
      refine rgn.Walk.ys (v := ?_) rfl rfl rfl ?_ ?_
      rotate_left 1
      · intro W' hW'
        go_simp
        try with_reducible rfl
      try simp only [Act.put, List.setIfInBounds_toArray, List.set_cons_zero, List.set_cons_succ]
      refine rgn.Walk.ys (v := ?_) rfl rfl rfl ?_ ?_
      rotate_left 1
      · intro W' hW'
        go_simp
        try with_reducible rfl
      try simp only [Act.put, List.setIfInBounds_toArray, List.set_cons_zero, List.set_cons_succ]
      refine rgn.Walk.ys (v := ?_) rfl rfl rfl ?_ ?_
      rotate_left 1
      · intro W' hW'
        go_simp
        try with_reducible rfl
      try simp only [Act.put, List.setIfInBounds_toArray, List.set_cons_zero, List.set_cons_succ]
      refine rgn.Walk.ys (v := ?_) rfl rfl rfl ?_ ?_
      rotate_left 1
      · intro W' hW'
        go_simp
        try with_reducible rfl
      try simp only [Act.put, List.setIfInBounds_toArray, List.set_cons_zero, List.set_cons_succ]
      refine rgn.Walk.ys rfl rfl rfl (fun W' hW' => exec_mac _ _ rfl b 3 rfl _ _ _ _ _ _ (r_lmac (OB.out.only hW' (by simp))) Try.underlying25 rfl (by kernel_rfl)) ?_
      try simp only [Act.put, List.setIfInBounds_toArray, List.set_cons_zero, List.set_cons_succ]
      refine rgn.Walk.ys (v := ?_) rfl rfl rfl ?_ ?_
      rotate_left 1
      · intro W' hW'
        go_simp
        try with_reducible rfl
      try simp only [Act.put, List.setIfInBounds_toArray, List.set_cons_zero, List.set_cons_succ]
      refine rgn.Walk.ys (v := ?_) rfl rfl rfl ?_ ?_
      rotate_left 1
      · intro W' hW'
        go_simp
        try with_reducible rfl
      try simp only [Act.put, List.setIfInBounds_toArray, List.set_cons_zero, List.set_cons_succ]
      refine rgn.Walk.ys (v := ?_) rfl rfl rfl ?_ ?_
      rotate_left 1
      · intro W' hW'
        go_simp
        try with_reducible rfl
      try simp only [Act.put, List.setIfInBounds_toArray, List.set_cons_zero, List.set_cons_succ]
      refine rgn.Walk.ys rfl rfl rfl (fun W' hW' => exec_mac _ _ rfl m 0 rfl _ _ _ _ _ _ (r_mac (OM.out.only hW' (by simp))) Try.underlying25 rfl (by kernel_rfl)) ?_
      try simp only [Act.put, List.setIfInBounds_toArray, List.set_cons_zero, List.set_cons_succ]
      refine rgn.Walk.ys (v := ?_) rfl rfl rfl ?_ ?_
      rotate_left 1
      · intro W' hW'
        have q7 := ev.eqMacD 9998 l.c0 l.c1 l.c2 l.c3 l.c4 l.c5 s.c0 s.c1 s.c2 s.c3 s.c4 s.c5 W'
        rw [HMQ.out] at q7
        go_simp
        try with_reducible rfl
      try simp only [Act.put, List.setIfInBounds_toArray, List.set_cons_zero, List.set_cons_succ]
      refine rgn.Walk.ys (v := ?_) rfl rfl rfl ?_ ?_
      rotate_left 1
      · intro W' hW'
        go_simp
        try with_reducible rfl
      try simp only [Act.put, List.setIfInBounds_toArray, List.set_cons_zero, List.set_cons_succ]
      refine rgn.Walk.zs (NoPanic.normal ?_)
      clear e1 e2
      have k6 := k_st OM.out
      go_wp2_with fail
      refine wp_region_noPanic ?_
      refine rgn.regionT (R := Only []) (by kernel_rfl) (Only.refl []) (fun _ _ _ => Only.trans) (fun _ _ _ _ _ h => h) (.y 0 (.y 1 (.y 2 (.y 3 (.y 4 (.y 5 (.y 6 (.y 7 (.y 8 (.y 9 (.y 10 (.y 11 (.y 12 .z))))))))))))) (by kernel_rfl) (fun WZ hWd => ?_)
      have HWd := hid hWd; clear hWd
      clear k6
      have q8 : Only [] W WZ := Only.eq_drew (Only.refl [] _) HWd.out
      have OM := hid (OM.out.only q8 (by simp)); have OB := hid (OB.out.only q8 (by simp)); have QM := hid (QM.out.trans (q8.more (by simp)))
      clear q8 HWd
      have k6 := k_st OM.out
      refine rgn.Walk.ys (v := ?_) rfl rfl rfl ?_ ?_
      rotate_left 1
      · intro W' hW'
        go_simp
        try with_reducible rfl
      try simp only [Act.put, List.setIfInBounds_toArray, List.set_cons_zero, List.set_cons_succ]
      refine rgn.Walk.ys (v := ?_) rfl rfl rfl ?_ ?_
      rotate_left 1
      · intro W' hW'
        have q0 := l_ty (OB.out.only hW' (by simp))
        go_simp
        try with_reducible rfl
      try simp only [Act.put, List.setIfInBounds_toArray, List.set_cons_zero, List.set_cons_succ]
      refine rgn.Walk.ys (v := ?_) rfl rfl rfl ?_ ?_
      rotate_left 1
      · intro W' hW'
        go_simp
        try with_reducible rfl
      try simp only [Act.put, List.setIfInBounds_toArray, List.set_cons_zero, List.set_cons_succ]
      refine rgn.Walk.ys (v := ?_) rfl rfl rfl ?_ ?_
      rotate_left 1
      · intro W' hW'
        go_simp
        try with_reducible rfl
      try simp only [Act.put, List.setIfInBounds_toArray, List.set_cons_zero, List.set_cons_succ]
      refine rgn.Walk.yn rfl rfl rfl ?_
      try simp only [Act.put, List.setIfInBounds_toArray, List.set_cons_zero, List.set_cons_succ]
      refine rgn.Walk.yn rfl rfl rfl ?_
      try simp only [Act.put, List.setIfInBounds_toArray, List.set_cons_zero, List.set_cons_succ]
      refine rgn.Walk.yn rfl rfl rfl ?_
      try simp only [Act.put, List.setIfInBounds_toArray, List.set_cons_zero, List.set_cons_succ]
      refine rgn.Walk.yn rfl rfl rfl ?_
      try simp only [Act.put, List.setIfInBounds_toArray, List.set_cons_zero, List.set_cons_succ]
      refine rgn.Walk.yn rfl rfl rfl ?_
      try simp only [Act.put, List.setIfInBounds_toArray, List.set_cons_zero, List.set_cons_succ]
      refine rgn.Walk.yn rfl rfl rfl ?_
      try simp only [Act.put, List.setIfInBounds_toArray, List.set_cons_zero, List.set_cons_succ]
      refine rgn.Walk.yn rfl rfl rfl ?_
      try simp only [Act.put, List.setIfInBounds_toArray, List.set_cons_zero, List.set_cons_succ]
      refine rgn.Walk.yn rfl rfl rfl ?_
      try simp only [Act.put, List.setIfInBounds_toArray, List.set_cons_zero, List.set_cons_succ]
      refine rgn.Walk.ys (v := ?_) rfl rfl rfl ?_ ?_
      rotate_left 1
      · intro W' hW'
        go_simp
        try with_reducible rfl
      try simp only [Act.put, List.setIfInBounds_toArray, List.set_cons_zero, List.set_cons_succ]
      refine rgn.Walk.zs (NoPanic.normal ?_)
      have c4 := l_ty OB.out
      go_wp2_with fail
      refine (beginD _ m T tl s now draw OM.out HNow.out).mono ?_
      rintro x w3 ⟨A, n, c, rfl, hl, hr, hf, hO3, o3⟩
      have HL := hid hl; have HR := hid hr; have HF := hid hf; have OM := hid hO3; have HZ := hid QM.out.size; have QM := hid (QM.out.trans o3)
      clear hl hr hf hO3 o3
      clear k6 c4 t1 t3
      go_wp2_with fail
      go_ret
      exact ⟨A, n, c, rfl, HL.out, HR.out, fun b off e => Nat.le_trans HZ.out (HF.out b off e), OM.out, QM.out⟩
    · have t3 : (l.ty == 6) = false := by simp [g3]
      have HG : Hid (s.dgranted l s.le.yo s.le.sv now draw = (s, [])) := hid (by unfold Mc.dgranted; rw [if_neg (by simp [g1]), if_neg g3])
      rw [HG.out]
      clear g1 g3
      go_enter Try.func20, Try.ntmps20
      go_wp2_with fail
      refine wp_region_noPanic ?_
      refine rgn.regionT (R := Only []) (by kernel_rfl) (Only.refl []) (fun _ _ _ => Only.trans) (fun _ _ _ _ _ h => h) (.y 0 (.y 1 (.y 2 (.y 3 (.y 4 (.y 5 (.y 6 (.y 7 (.y 8 (.y 9 (.y 10 (.y 11 (.y 12 (.y 13 (.y 14 (.y 15 (.y 16 (.y 17 (.y 18 (.y 19 (.y 20 .z))))))))))))))))))))) (by kernel_rfl) (fun W hWd => ?_)
      have HWd := hid hWd; clear hWd
      have q8 : Only [] W1 W := Only.eq_drew (Only.refl [] _) HWd.out
      have OM := hid (OM.out.only q8 (by simp)); have OB := hid (OB.out.only q8 (by simp)); have QM := hid (QM.out.trans (q8.more (by simp)))
      clear q8 HWd
      refine rgn.Walk.ys (v := ?_) rfl rfl rfl ?_ ?_
      rotate_left 1
      · intro W' hW'
        go_simp
        try with_reducible rfl
      try simp only [Act.put, List.setIfInBounds_toArray, List.set_cons_zero, List.set_cons_succ]
      refine rgn.Walk.ys (v := ?_) rfl rfl rfl ?_ ?_
      rotate_left 1
      · intro W' hW'
        have q0 := l_op (OB.out.only hW' (by simp))
        go_simp
        try with_reducible rfl
      try simp only [Act.put, List.setIfInBounds_toArray, List.set_cons_zero, List.set_cons_succ]
      refine rgn.Walk.ys (v := ?_) rfl rfl rfl ?_ ?_
      rotate_left 1
      · intro W' hW'
        go_simp
        try with_reducible rfl
      try simp only [Act.put, List.setIfInBounds_toArray, List.set_cons_zero, List.set_cons_succ]
      refine rgn.Walk.ys (v := ?_) rfl rfl rfl ?_ ?_
      rotate_left 1
      · intro W' hW'
        go_simp
        try with_reducible rfl
      try simp only [Act.put, List.setIfInBounds_toArray, List.set_cons_zero, List.set_cons_succ]
      refine rgn.Walk.ys (v := ?_) rfl rfl rfl ?_ ?_
      rotate_left 1
      · intro W' hW'
        go_simp
        try with_reducible rfl
      try simp only [Act.put, List.setIfInBounds_toArray, List.set_cons_zero, List.set_cons_succ]
      refine rgn.Walk.ys (v := ?_) rfl rfl rfl ?_ ?_
      rotate_left 1
      · intro W' hW'
        have q0 := l_id (OB.out.only hW' (by simp))
        go_simp
        try with_reducible rfl
      try simp only [Act.put, List.setIfInBounds_toArray, List.set_cons_zero, List.set_cons_succ]
      refine rgn.Walk.ys (v := ?_) rfl rfl rfl ?_ ?_
      rotate_left 1
      · intro W' hW'
        go_simp
        try with_reducible rfl
      try simp only [Act.put, List.setIfInBounds_toArray, List.set_cons_zero, List.set_cons_succ]
      refine rgn.Walk.ys (v := ?_) rfl rfl rfl ?_ ?_
      rotate_left 1
      · intro W' hW'
        go_simp
        try with_reducible rfl
      try simp only [Act.put, List.setIfInBounds_toArray, List.set_cons_zero, List.set_cons_succ]
      refine rgn.Walk.ys (v := ?_) rfl rfl rfl ?_ ?_
      rotate_left 1
      · intro W' hW'
        go_simp
        try with_reducible rfl
      try simp only [Act.put, List.setIfInBounds_toArray, List.set_cons_zero, List.set_cons_succ]
      refine rgn.Walk.ys (v := ?_) rfl rfl rfl ?_ ?_
      rotate_left 1
      · intro W' hW'
        have q0 := k_id (OM.out.only hW' (by simp))
        go_simp
        try with_reducible rfl
      try simp only [Act.put, List.setIfInBounds_toArray, List.set_cons_zero, List.set_cons_succ]
      refine rgn.Walk.ys (v := ?_) rfl rfl rfl ?_ ?_
      rotate_left 1
      · intro W' hW'
        go_simp
        try with_reducible rfl
      try simp only [Act.put, List.setIfInBounds_toArray, List.set_cons_zero, List.set_cons_succ]
      refine rgn.Walk.ys (v := ?_) rfl rfl rfl ?_ ?_
      rotate_left 1
      · intro W' hW'
        go_simp
        try with_reducible rfl
      try simp only [Act.put, List.setIfInBounds_toArray, List.set_cons_zero, List.set_cons_succ]
      refine rgn.Walk.ys (v := ?_) rfl rfl rfl ?_ ?_
      rotate_left 1
      · intro W' hW'
        go_simp
        try with_reducible rfl
      try simp only [Act.put, List.setIfInBounds_toArray, List.set_cons_zero, List.set_cons_succ]
      refine rgn.Walk.ys (v := ?_) rfl rfl rfl ?_ ?_
      rotate_left 1
      · intro W' hW'
        go_simp
        try with_reducible rfl
      try simp only [Act.put, List.setIfInBounds_toArray, List.set_cons_zero, List.set_cons_succ]
      refine rgn.Walk.ys rfl rfl rfl (fun W' hW' => exec_mac _ _ rfl b 3 rfl _ _ _ _ _ _ (r_lmac (OB.out.only hW' (by simp))) Try.underlying25 rfl (by kernel_rfl)) ?_
      try simp only [Act.put, List.setIfInBounds_toArray, List.set_cons_zero, List.set_cons_succ]
      refine rgn.Walk.ys (v := ?_) rfl rfl rfl ?_ ?_
      rotate_left 1
      · intro W' hW'
        go_simp
        try with_reducible rfl
      try simp only [Act.put, List.setIfInBounds_toArray, List.set_cons_zero, List.set_cons_succ]
      refine rgn.Walk.ys (v := ?_) rfl rfl rfl ?_ ?_
      rotate_left 1
      · intro W' hW'
        go_simp
        try with_reducible rfl
      try simp only [Act.put, List.setIfInBounds_toArray, List.set_cons_zero, List.set_cons_succ]
      refine rgn.Walk.ys (v := ?_) rfl rfl rfl ?_ ?_
      rotate_left 1
      · intro W' hW'
        go_simp
        try with_reducible rfl
      try simp only [Act.put, List.setIfInBounds_toArray, List.set_cons_zero, List.set_cons_succ]
      refine rgn.Walk.ys rfl rfl rfl (fun W' hW' => exec_mac _ _ rfl m 0 rfl _ _ _ _ _ _ (r_mac (OM.out.only hW' (by simp))) Try.underlying25 rfl (by kernel_rfl)) ?_
      try simp only [Act.put, List.setIfInBounds_toArray, List.set_cons_zero, List.set_cons_succ]
      refine rgn.Walk.ys (v := ?_) rfl rfl rfl ?_ ?_
      rotate_left 1
      · intro W' hW'
        have q7 := ev.eqMacD 9998 l.c0 l.c1 l.c2 l.c3 l.c4 l.c5 s.c0 s.c1 s.c2 s.c3 s.c4 s.c5 W'
        rw [HMQ.out] at q7
        go_simp
        try with_reducible rfl
      try simp only [Act.put, List.setIfInBounds_toArray, List.set_cons_zero, List.set_cons_succ]
      refine rgn.Walk.ys (v := ?_) rfl rfl rfl ?_ ?_
      rotate_left 1
      · intro W' hW'
        go_simp
        try with_reducible rfl
      try simp only [Act.put, List.setIfInBounds_toArray, List.set_cons_zero, List.set_cons_succ]
      refine rgn.Walk.zs (NoPanic.normal ?_)
      clear e1 e2
      have k6 := k_st OM.out
      go_wp2_with fail
      refine wp_region_noPanic ?_
      refine rgn.regionT (R := Only []) (by kernel_rfl) (Only.refl []) (fun _ _ _ => Only.trans) (fun _ _ _ _ _ h => h) (.y 0 (.y 1 (.y 2 (.y 3 (.y 4 (.y 5 (.y 6 (.y 7 (.y 8 (.y 9 (.y 10 (.y 11 (.y 12 .z))))))))))))) (by kernel_rfl) (fun WZ hWd => ?_)
      have HWd := hid hWd; clear hWd
      clear k6
      have q8 : Only [] W WZ := Only.eq_drew (Only.refl [] _) HWd.out
      have OM := hid (OM.out.only q8 (by simp)); have OB := hid (OB.out.only q8 (by simp)); have QM := hid (QM.out.trans (q8.more (by simp)))
      clear q8 HWd
      have k6 := k_st OM.out
      refine rgn.Walk.ys (v := ?_) rfl rfl rfl ?_ ?_
      rotate_left 1
      · intro W' hW'
        go_simp
        try with_reducible rfl
      try simp only [Act.put, List.setIfInBounds_toArray, List.set_cons_zero, List.set_cons_succ]
      refine rgn.Walk.ys (v := ?_) rfl rfl rfl ?_ ?_
      rotate_left 1
      · intro W' hW'
        have q0 := l_ty (OB.out.only hW' (by simp))
        go_simp
        try with_reducible rfl
      try simp only [Act.put, List.setIfInBounds_toArray, List.set_cons_zero, List.set_cons_succ]
      refine rgn.Walk.ys (v := ?_) rfl rfl rfl ?_ ?_
      rotate_left 1
      · intro W' hW'
        go_simp
        try with_reducible rfl
      try simp only [Act.put, List.setIfInBounds_toArray, List.set_cons_zero, List.set_cons_succ]
      refine rgn.Walk.ys (v := ?_) rfl rfl rfl ?_ ?_
      rotate_left 1
      · intro W' hW'
        go_simp
        try with_reducible rfl
      try simp only [Act.put, List.setIfInBounds_toArray, List.set_cons_zero, List.set_cons_succ]
      refine rgn.Walk.yn rfl rfl rfl ?_
      try simp only [Act.put, List.setIfInBounds_toArray, List.set_cons_zero, List.set_cons_succ]
      refine rgn.Walk.yn rfl rfl rfl ?_
      try simp only [Act.put, List.setIfInBounds_toArray, List.set_cons_zero, List.set_cons_succ]
      refine rgn.Walk.yn rfl rfl rfl ?_
      try simp only [Act.put, List.setIfInBounds_toArray, List.set_cons_zero, List.set_cons_succ]
      refine rgn.Walk.yn rfl rfl rfl ?_
      try simp only [Act.put, List.setIfInBounds_toArray, List.set_cons_zero, List.set_cons_succ]
      refine rgn.Walk.yn rfl rfl rfl ?_
      try simp only [Act.put, List.setIfInBounds_toArray, List.set_cons_zero, List.set_cons_succ]
      refine rgn.Walk.yn rfl rfl rfl ?_
      try simp only [Act.put, List.setIfInBounds_toArray, List.set_cons_zero, List.set_cons_succ]
      refine rgn.Walk.yn rfl rfl rfl ?_
      try simp only [Act.put, List.setIfInBounds_toArray, List.set_cons_zero, List.set_cons_succ]
      refine rgn.Walk.yn rfl rfl rfl ?_
      try simp only [Act.put, List.setIfInBounds_toArray, List.set_cons_zero, List.set_cons_succ]
      refine rgn.Walk.ys (v := ?_) rfl rfl rfl ?_ ?_
      rotate_left 1
      · intro W' hW'
        go_simp
        try with_reducible rfl
      try simp only [Act.put, List.setIfInBounds_toArray, List.set_cons_zero, List.set_cons_succ]
      refine rgn.Walk.zs (NoPanic.normal ?_)
      have c4 := l_ty OB.out
      go_wp2_with fail
      go_ret
      exact step_none OM.out QM.out
set_option maxRecDepth 100000 in
set_option maxHeartbeats 8000000 in
theorem hearD5 (w : World) (m : Nat) (T : TypeId) (tl : List Value) (s : Mc) (l : Lm) (now draw : Int) (hO : Ob w m T (s.cs tl)) (hn : Tk now) (h1 : l.op = 2) (h2 : l.id = s.id) (h3 : macEq l s = true) (hs : s.st = 5) :
    Calls Try.prog 20 #[.pointer (some ⟨m, 0, none⟩), .agg l.cs, .int .i64 now, .int .i64 draw] w (StepE m T tl (s.dgranted l s.le.yo s.le.sv now draw).1 (s.dgranted l s.le.yo s.le.sv now draw).2 w) := by
  obtain ⟨b, hb⟩ : ∃ b, w.heap.size = b := ⟨_, rfl⟩
  obtain ⟨W1, hW1⟩ : ∃ W1, w.alloc (.cells l.cs 27) = W1 := ⟨_, rfl⟩
  have OB : Hid (Ob W1 b 27 l.cs) := hid (by rw [← hW1, ← hb]; exact Ob.new _ _ _)
  have o1 : Only [] w W1 := by rw [← hW1]; exact (Only.refl [] w).alloc _
  have OM := hid (hO.only o1 (by simp))
  have HN : Hid (m ≠ b) := hid (by have := hO.lt; omega)
  have HBM : Hid (b ∉ [m]) := hid (by have := hO.lt; simp; omega)
  have QM : Hid (Only [m] w W1) := hid (o1.more (by simp))
  have HNow := hid hn
  clear hO o1 hn
  have e1 : (l.op != 2) = false := by simp [h1]
  have e2 : (l.id != s.id) = false := by simp [h2]
  have HMQ : Hid (decide (l.c0 = s.c0 ∧ l.c1 = s.c1 ∧ l.c2 = s.c2 ∧ l.c3 = s.c3 ∧ l.c4 = s.c4 ∧ l.c5 = s.c5) = true) := hid h3
  clear h1 h2 h3
  have f1 : (s.st == 1) = false := by simp [hs]
  have f2 : (s.st == 2) = false := by simp [hs]
  have f4 : (s.st == 4) = false := by simp [hs]
  have f5 : (s.st == 5) = true := by simp [hs]
  clear hs
  by_cases g1 : l.ty = 5
  · have t1 : (l.ty == 5) = true := by simp [g1]
    have t3 : (l.ty == 6) = false := by simp [g1]
    by_cases g2 : l.yo = s.le.yo
    · have t2 : (l.yo == s.le.yo) = true := by simp [g2]
      have HG : Hid (s.dgranted l s.le.yo s.le.sv now draw = (s.bound l s.le.sv now, [])) := hid (if_pos ⟨g1, g2⟩)
      rw [HG.out]
      clear g1 g2
      go_enter Try.func20, Try.ntmps20
      go_wp2_with fail
      refine wp_region_noPanic ?_
      refine rgn.regionT (R := Only []) (by kernel_rfl) (Only.refl []) (fun _ _ _ => Only.trans) (fun _ _ _ _ _ h => h) (.y 0 (.y 1 (.y 2 (.y 3 (.y 4 (.y 5 (.y 6 (.y 7 (.y 8 (.y 9 (.y 10 (.y 11 (.y 12 (.y 13 (.y 14 (.y 15 (.y 16 (.y 17 (.y 18 (.y 19 (.y 20 .z))))))))))))))))))))) (by kernel_rfl) (fun W hWd => ?_)
      have HWd := hid hWd; clear hWd
      have q8 : Only [] W1 W := Only.eq_drew (Only.refl [] _) HWd.out
      have OM := hid (OM.out.only q8 (by simp)); have OB := hid (OB.out.only q8 (by simp)); have QM := hid (QM.out.trans (q8.more (by simp)))
      clear q8 HWd
      refine rgn.Walk.ys (v := ?_) rfl rfl rfl ?_ ?_
      rotate_left 1
      · intro W' hW'
        go_simp
        try with_reducible rfl
      try simp only [Act.put, List.setIfInBounds_toArray, List.set_cons_zero, List.set_cons_succ]
      refine rgn.Walk.ys (v := ?_) rfl rfl rfl ?_ ?_
      rotate_left 1
      · intro W' hW'
        have q0 := l_op (OB.out.only hW' (by simp))
        go_simp
        try with_reducible rfl
      try simp only [Act.put, List.setIfInBounds_toArray, List.set_cons_zero, List.set_cons_succ]
      refine rgn.Walk.ys (v := ?_) rfl rfl rfl ?_ ?_
      rotate_left 1
      · intro W' hW'
        go_simp
        try with_reducible rfl
      try simp only [Act.put, List.setIfInBounds_toArray, List.set_cons_zero, List.set_cons_succ]
      refine rgn.Walk.ys (v := ?_) rfl rfl rfl ?_ ?_
      rotate_left 1
      · intro W' hW'
        go_simp
        try with_reducible rfl
      try simp only [Act.put, List.setIfInBounds_toArray, List.set_cons_zero, List.set_cons_succ]
      refine rgn.Walk.ys (v := ?_) rfl rfl rfl ?_ ?_
      rotate_left 1
      · intro W' hW'
        go_simp
        try with_reducible rfl
      try simp only [Act.put, List.setIfInBounds_toArray, List.set_cons_zero, List.set_cons_succ]
      refine rgn.Walk.ys (v := ?_) rfl rfl rfl ?_ ?_
      rotate_left 1
      · intro W' hW'
        have q0 := l_id (OB.out.only hW' (by simp))
        go_simp
        try with_reducible rfl
      try simp only [Act.put, List.setIfInBounds_toArray, List.set_cons_zero, List.set_cons_succ]
      refine rgn.Walk.ys (v := ?_) rfl rfl rfl ?_ ?_
      rotate_left 1
      · intro W' hW'
        go_simp
        try with_reducible rfl
      try simp only [Act.put, List.setIfInBounds_toArray, List.set_cons_zero, List.set_cons_succ]
      refine rgn.Walk.ys (v := ?_) rfl rfl rfl ?_ ?_
      rotate_left 1
      · intro W' hW'
        go_simp
        try with_reducible rfl
      try simp only [Act.put, List.setIfInBounds_toArray, List.set_cons_zero, List.set_cons_succ]
      refine rgn.Walk.ys (v := ?_) rfl rfl rfl ?_ ?_
      rotate_left 1
      · intro W' hW'
        go_simp
        try with_reducible rfl
      try simp only [Act.put, List.setIfInBounds_toArray, List.set_cons_zero, List.set_cons_succ]
      refine rgn.Walk.ys (v := ?_) rfl rfl rfl ?_ ?_
      rotate_left 1
      · intro W' hW'
        have q0 := k_id (OM.out.only hW' (by simp))
        go_simp
        try with_reducible rfl
      try simp only [Act.put, List.setIfInBounds_toArray, List.set_cons_zero, List.set_cons_succ]
      refine rgn.Walk.ys (v := ?_) rfl rfl rfl ?_ ?_
      rotate_left 1
      · intro W' hW'
        go_simp
        try with_reducible rfl
      try simp only [Act.put, List.setIfInBounds_toArray, List.set_cons_zero, List.set_cons_succ]
      refine rgn.Walk.ys (v := ?_) rfl rfl rfl ?_ ?_
      rotate_left 1
      · intro W' hW'
        go_simp
        try with_reducible rfl
      try simp only [Act.put, List.setIfInBounds_toArray, List.set_cons_zero, List.set_cons_succ]
      refine rgn.Walk.ys (v := ?_) rfl rfl rfl ?_ ?_
      rotate_left 1
      · intro W' hW'
        go_simp
        try with_reducible rfl
      try simp only [Act.put, List.setIfInBounds_toArray, List.set_cons_zero, List.set_cons_succ]
      refine rgn.Walk.ys (v := ?_) rfl rfl rfl ?_ ?_
      rotate_left 1
      · intro W' hW'
        go_simp
        try with_reducible rfl
      try simp only [Act.put, List.setIfInBounds_toArray, List.set_cons_zero, List.set_cons_succ]
      refine rgn.Walk.ys rfl rfl rfl (fun W' hW' => exec_mac _ _ rfl b 3 rfl _ _ _ _ _ _ (r_lmac (OB.out.only hW' (by simp))) Try.underlying25 rfl (by kernel_rfl)) ?_
      try simp only [Act.put, List.setIfInBounds_toArray, List.set_cons_zero, List.set_cons_succ]
      refine rgn.Walk.ys (v := ?_) rfl rfl rfl ?_ ?_
      rotate_left 1
      · intro W' hW'
        go_simp
        try with_reducible rfl
      try simp only [Act.put, List.setIfInBounds_toArray, List.set_cons_zero, List.set_cons_succ]
      refine rgn.Walk.ys (v := ?_) rfl rfl rfl ?_ ?_
      rotate_left 1
      · intro W' hW'
        go_simp
        try with_reducible rfl
      try simp only [Act.put, List.setIfInBounds_toArray, List.set_cons_zero, List.set_cons_succ]
      refine rgn.Walk.ys (v := ?_) rfl rfl rfl ?_ ?_
      rotate_left 1
      · intro W' hW'
        go_simp
        try with_reducible rfl
      try simp only [Act.put, List.setIfInBounds_toArray, List.set_cons_zero, List.set_cons_succ]
      refine rgn.Walk.ys rfl rfl rfl (fun W' hW' => exec_mac _ _ rfl m 0 rfl _ _ _ _ _ _ (r_mac (OM.out.only hW' (by simp))) Try.underlying25 rfl (by kernel_rfl)) ?_
      try simp only [Act.put, List.setIfInBounds_toArray, List.set_cons_zero, List.set_cons_succ]
      refine rgn.Walk.ys (v := ?_) rfl rfl rfl ?_ ?_
      rotate_left 1
      · intro W' hW'
        have q7 := ev.eqMacD 9998 l.c0 l.c1 l.c2 l.c3 l.c4 l.c5 s.c0 s.c1 s.c2 s.c3 s.c4 s.c5 W'
        rw [HMQ.out] at q7
        go_simp
        try with_reducible rfl
      try simp only [Act.put, List.setIfInBounds_toArray, List.set_cons_zero, List.set_cons_succ]
      refine rgn.Walk.ys (v := ?_) rfl rfl rfl ?_ ?_
      rotate_left 1
      · intro W' hW'
        go_simp
        try with_reducible rfl
      try simp only [Act.put, List.setIfInBounds_toArray, List.set_cons_zero, List.set_cons_succ]
      refine rgn.Walk.zs (NoPanic.normal ?_)
      clear e1 e2
      have k6 := k_st OM.out
      go_wp2_with fail
      refine wp_region_noPanic ?_
      refine rgn.regionT (R := Only []) (by kernel_rfl) (Only.refl []) (fun _ _ _ => Only.trans) (fun _ _ _ _ _ h => h) (.y 0 (.y 1 (.y 2 (.y 3 (.y 4 (.y 5 (.y 6 (.y 7 (.y 8 (.y 9 (.y 10 (.y 11 (.y 12 .z))))))))))))) (by kernel_rfl) (fun WZ hWd => ?_)
      have HWd := hid hWd; clear hWd
      clear k6
      have q8 : Only [] W WZ := Only.eq_drew (Only.refl [] _) HWd.out
      have OM := hid (OM.out.only q8 (by simp)); have OB := hid (OB.out.only q8 (by simp)); have QM := hid (QM.out.trans (q8.more (by simp)))
      clear q8 HWd
      have k6 := k_st OM.out
      refine rgn.Walk.ys (v := ?_) rfl rfl rfl ?_ ?_
      rotate_left 1
      · intro W' hW'
        go_simp
        try with_reducible rfl
      try simp only [Act.put, List.setIfInBounds_toArray, List.set_cons_zero, List.set_cons_succ]
      refine rgn.Walk.ys (v := ?_) rfl rfl rfl ?_ ?_
      rotate_left 1
      · intro W' hW'
        have q0 := l_ty (OB.out.only hW' (by simp))
        go_simp
        try with_reducible rfl
      try simp only [Act.put, List.setIfInBounds_toArray, List.set_cons_zero, List.set_cons_succ]
      refine rgn.Walk.ys (v := ?_) rfl rfl rfl ?_ ?_
      rotate_left 1
      · intro W' hW'
        go_simp
        try with_reducible rfl
      try simp only [Act.put, List.setIfInBounds_toArray, List.set_cons_zero, List.set_cons_succ]
      refine rgn.Walk.ys (v := ?_) rfl rfl rfl ?_ ?_
      rotate_left 1
      · intro W' hW'
        go_simp
        try with_reducible rfl
      try simp only [Act.put, List.setIfInBounds_toArray, List.set_cons_zero, List.set_cons_succ]
      refine rgn.Walk.ys (v := ?_) rfl rfl rfl ?_ ?_
      rotate_left 1
      · intro W' hW'
        go_simp
        try with_reducible rfl
      try simp only [Act.put, List.setIfInBounds_toArray, List.set_cons_zero, List.set_cons_succ]
      refine rgn.Walk.ys (v := ?_) rfl rfl rfl ?_ ?_
      rotate_left 1
      · intro W' hW'
        have q0 := l_yo (OB.out.only hW' (by simp))
        go_simp
        try with_reducible rfl
      try simp only [Act.put, List.setIfInBounds_toArray, List.set_cons_zero, List.set_cons_succ]
      refine rgn.Walk.ys (v := ?_) rfl rfl rfl ?_ ?_
      rotate_left 1
      · intro W' hW'
        go_simp
        try with_reducible rfl
      try simp only [Act.put, List.setIfInBounds_toArray, List.set_cons_zero, List.set_cons_succ]
      refine rgn.Walk.ys (v := ?_) rfl rfl rfl ?_ ?_
      rotate_left 1
      · intro W' hW'
        go_simp
        try with_reducible rfl
      try simp only [Act.put, List.setIfInBounds_toArray, List.set_cons_zero, List.set_cons_succ]
      refine rgn.Walk.ys (v := ?_) rfl rfl rfl ?_ ?_
      rotate_left 1
      · intro W' hW'
        go_simp
        try with_reducible rfl
      try simp only [Act.put, List.setIfInBounds_toArray, List.set_cons_zero, List.set_cons_succ]
      refine rgn.Walk.ys (v := ?_) rfl rfl rfl ?_ ?_
      rotate_left 1
      · intro W' hW'
        go_simp
        try with_reducible rfl
      try simp only [Act.put, List.setIfInBounds_toArray, List.set_cons_zero, List.set_cons_succ]
      refine rgn.Walk.ys (v := ?_) rfl rfl rfl ?_ ?_
      rotate_left 1
      · intro W' hW'
        have q0 := k_le_yo (OM.out.only hW' (by simp))
        go_simp
        try with_reducible rfl
      try simp only [Act.put, List.setIfInBounds_toArray, List.set_cons_zero, List.set_cons_succ]
      refine rgn.Walk.ys (v := ?_) rfl rfl rfl ?_ ?_
      rotate_left 1
      · intro W' hW'
        go_simp
        try with_reducible rfl
      try simp only [Act.put, List.setIfInBounds_toArray, List.set_cons_zero, List.set_cons_succ]
      refine rgn.Walk.ys (v := ?_) rfl rfl rfl ?_ ?_
      rotate_left 1
      · intro W' hW'
        go_simp
        try with_reducible rfl
      try simp only [Act.put, List.setIfInBounds_toArray, List.set_cons_zero, List.set_cons_succ]
      refine rgn.Walk.zs (NoPanic.normal ?_)
      have c4 := l_ty OB.out
      go_wp2_with fail
      refine wp_region_noPanic ?_
      refine rgn.regionT (R := Only [m]) (by kernel_rfl) (Only.refl [m]) (fun _ _ _ => Only.trans) (fun _ _ _ _ _ h => h) (.y 0 (.y 1 (.y 2 (.y 3 (.y 4 (.y 5 (.y 7 (.e 6 (.e 8 .z))))))))) (by kernel_rfl) (fun WY hWd => ?_)
      have HWd := hid hWd; clear hWd
      clear k6 c4
      have q8 : Only [] WZ WY := Only.eq_drew (Only.refl [] _) HWd.out
      have OM := hid (OM.out.only q8 (by simp)); have OB := hid (OB.out.only q8 (by simp)); have QM := hid (QM.out.trans (q8.more (by simp)))
      clear q8 HWd
      refine rgn.Walk.ys (v := ?_) rfl rfl rfl ?_ ?_
      rotate_left 1
      · intro W' hW'
        go_simp
        try with_reducible rfl
      try simp only [Act.put, List.setIfInBounds_toArray, List.set_cons_zero, List.set_cons_succ]
      refine rgn.Walk.ys rfl rfl rfl (fun W' hW' => exec_lm _ _ rfl b 0 rfl l (r_all (OB.out.only hW' HBM.out)) Try.underlying27 rfl (by kernel_rfl)) ?_
      try simp only [Act.put, List.setIfInBounds_toArray, List.set_cons_zero, List.set_cons_succ]
      refine rgn.Walk.ys (v := ?_) rfl rfl rfl ?_ ?_
      rotate_left 1
      · intro W' hW'
        go_simp
        try with_reducible rfl
      try simp only [Act.put, List.setIfInBounds_toArray, List.set_cons_zero, List.set_cons_succ]
      refine rgn.Walk.ys (v := ?_) rfl rfl rfl ?_ ?_
      rotate_left 1
      · intro W' hW'
        go_simp
        try with_reducible rfl
      try simp only [Act.put, List.setIfInBounds_toArray, List.set_cons_zero, List.set_cons_succ]
      refine rgn.Walk.ys (v := ?_) rfl rfl rfl ?_ ?_
      rotate_left 1
      · intro W' hW'
        go_simp
        try with_reducible rfl
      try simp only [Act.put, List.setIfInBounds_toArray, List.set_cons_zero, List.set_cons_succ]
      refine rgn.Walk.ys (v := ?_) rfl rfl rfl ?_ ?_
      rotate_left 1
      · intro W' hW'
        go_simp
        try with_reducible rfl
      try simp only [Act.put, List.setIfInBounds_toArray, List.set_cons_zero, List.set_cons_succ]
      refine rgn.Walk.ys (v := ?_) rfl rfl rfl ?_ ?_
      rotate_left 1
      · intro W' hW'
        go_simp
        try with_reducible rfl
      try simp only [Act.put, List.setIfInBounds_toArray, List.set_cons_zero, List.set_cons_succ]
      refine rgn.Walk.es ?_
      refine rgn.stepE rfl rfl (fun K hK => ?_)
      have qq := k_le_sv OM.out
      go_simp
      refine hK _ _ (Only.refl _ _) ?_
      clear hK K qq
      try simp only [Act.put, List.setIfInBounds_toArray, List.set_cons_zero, List.set_cons_succ]
      refine rgn.Walk.es ?_
      refine rgn.stepE rfl rfl (fun K hK => ?_)
      go_simp
      refine (bindsD _ m T tl s l s.le.sv now OM.out HNow.out).mono ?_
      rintro x w4 ⟨rfl, hO4, o4⟩
      refine hK _ _ o4 ?_
      clear hK K
      try simp only [Act.put, List.setIfInBounds_toArray, List.set_cons_zero, List.set_cons_succ]
      have OM := hid hO4; have QM := hid (QM.out.trans o4); have OB := hid (OB.out.only o4 HBM.out)
      clear hO4 o4
      refine rgn.Walk.zs (NoPanic.normal ?_)
      have c4 := l_ty OB.out
      go_wp2_with fail
      go_ret
      exact step_none OM.out QM.out
    · have t2 : (l.yo == s.le.yo) = false := by simp [g2]
      have HG : Hid (s.dgranted l s.le.yo s.le.sv now draw = (s, [])) := hid (by unfold Mc.dgranted; rw [if_neg (by simp [g2]), if_neg (by omega)])
      rw [HG.out]
      clear g1 g2
      go_enter Try.func20, Try.ntmps20
      go_wp2_with fail
      refine wp_region_noPanic ?_
      refine rgn.regionT (R := Only []) (by kernel_rfl) (Only.refl []) (fun _ _ _ => Only.trans) (fun _ _ _ _ _ h => h) (.y 0 (.y 1 (.y 2 (.y 3 (.y 4 (.y 5 (.y 6 (.y 7 (.y 8 (.y 9 (.y 10 (.y 11 (.y 12 (.y 13 (.y 14 (.y 15 (.y 16 (.y 17 (.y 18 (.y 19 (.y 20 .z))))))))))))))))))))) (by kernel_rfl) (fun W hWd => ?_)
      have HWd := hid hWd; clear hWd
      have q8 : Only [] W1 W := Only.eq_drew (Only.refl [] _) HWd.out
      have OM := hid (OM.out.only q8 (by simp)); have OB := hid (OB.out.only q8 (by simp)); have QM := hid (QM.out.trans (q8.more (by simp)))
      clear q8 HWd
      refine rgn.Walk.ys (v := ?_) rfl rfl rfl ?_ ?_
      rotate_left 1
      · intro W' hW'
        go_simp
        try with_reducible rfl
      try simp only [Act.put, List.setIfInBounds_toArray, List.set_cons_zero, List.set_cons_succ]
      refine rgn.Walk.ys (v := ?_) rfl rfl rfl ?_ ?_
      rotate_left 1
      · intro W' hW'
        have q0 := l_op (OB.out.only hW' (by simp))
        go_simp
        try with_reducible rfl
      try simp only [Act.put, List.setIfInBounds_toArray, List.set_cons_zero, List.set_cons_succ]
      refine rgn.Walk.ys (v := ?_) rfl rfl rfl ?_ ?_
      rotate_left 1
      · intro W' hW'
        go_simp
        try with_reducible rfl
      try simp only [Act.put, List.setIfInBounds_toArray, List.set_cons_zero, List.set_cons_succ]
      refine rgn.Walk.ys (v := ?_) rfl rfl rfl ?_ ?_
      rotate_left 1
      · intro W' hW'
        go_simp
        try with_reducible rfl
      try simp only [Act.put, List.setIfInBounds_toArray, List.set_cons_zero, List.set_cons_succ]
      refine rgn.Walk.ys (v := ?_) rfl rfl rfl ?_ ?_
      rotate_left 1
      · intro W' hW'
        go_simp
        try with_reducible rfl
      try simp only [Act.put, List.setIfInBounds_toArray, List.set_cons_zero, List.set_cons_succ]
      refine rgn.Walk.ys (v := ?_) rfl rfl rfl ?_ ?_
      rotate_left 1
      · intro W' hW'
        have q0 := l_id (OB.out.only hW' (by simp))
        go_simp
        try with_reducible rfl
      try simp only [Act.put, List.setIfInBounds_toArray, List.set_cons_zero, List.set_cons_succ]
      refine rgn.Walk.ys (v := ?_) rfl rfl rfl ?_ ?_
      rotate_left 1
      · intro W' hW'
        go_simp
        try with_reducible rfl
      try simp only [Act.put, List.setIfInBounds_toArray, List.set_cons_zero, List.set_cons_succ]
      refine rgn.Walk.ys (v := ?_) rfl rfl rfl ?_ ?_
      rotate_left 1
      · intro W' hW'
        go_simp
        try with_reducible rfl
      try simp only [Act.put, List.setIfInBounds_toArray, List.set_cons_zero, List.set_cons_succ]
      refine rgn.Walk.ys (v := ?_) rfl rfl rfl ?_ ?_
      rotate_left 1
      · intro W' hW'
        go_simp
        try with_reducible rfl
      try simp only [Act.put, List.setIfInBounds_toArray, List.set_cons_zero, List.set_cons_succ]
      refine rgn.Walk.ys (v := ?_) rfl rfl rfl ?_ ?_
      rotate_left 1
      · intro W' hW'
        have q0 := k_id (OM.out.only hW' (by simp))
        go_simp
        try with_reducible rfl
      try simp only [Act.put, List.setIfInBounds_toArray, List.set_cons_zero, List.set_cons_succ]
      refine rgn.Walk.ys (v := ?_) rfl rfl rfl ?_ ?_
      rotate_left 1
      · intro W' hW'
        go_simp
        try with_reducible rfl
      try simp only [Act.put, List.setIfInBounds_toArray, List.set_cons_zero, List.set_cons_succ]
      refine rgn.Walk.ys (v := ?_) rfl rfl rfl ?_ ?_
      rotate_left 1
      · intro W' hW'
        go_simp
        try with_reducible rfl
      try simp only [Act.put, List.setIfInBounds_toArray, List.set_cons_zero, List.set_cons_succ]
      refine rgn.Walk.ys (v := ?_) rfl rfl rfl ?_ ?_
      rotate_left 1
      · intro W' hW'
        go_simp
        try with_reducible rfl
      try simp only [Act.put, List.setIfInBounds_toArray, List.set_cons_zero, List.set_cons_succ]
      refine rgn.Walk.ys (v := ?_) rfl rfl rfl ?_ ?_
      rotate_left 1
      · intro W' hW'
        go_simp
        try with_reducible rfl
      try simp only [Act.put, List.setIfInBounds_toArray, List.set_cons_zero, List.set_cons_succ]
      refine rgn.Walk.ys rfl rfl rfl (fun W' hW' => exec_mac _ _ rfl b 3 rfl _ _ _ _ _ _ (r_lmac (OB.out.only hW' (by simp))) Try.underlying25 rfl (by kernel_rfl)) ?_
      try simp only [Act.put, List.setIfInBounds_toArray, List.set_cons_zero, List.set_cons_succ]
      refine rgn.Walk.ys (v := ?_) rfl rfl rfl ?_ ?_
      rotate_left 1
      · intro W' hW'
        go_simp
        try with_reducible rfl
      try simp only [Act.put, List.setIfInBounds_toArray, List.set_cons_zero, List.set_cons_succ]
      refine rgn.Walk.ys (v := ?_) rfl rfl rfl ?_ ?_
      rotate_left 1
      · intro W' hW'
        go_simp
        try with_reducible rfl
      try simp only [Act.put, List.setIfInBounds_toArray, List.set_cons_zero, List.set_cons_succ]
      refine rgn.Walk.ys (v := ?_) rfl rfl rfl ?_ ?_
      rotate_left 1
      · intro W' hW'
        go_simp
        try with_reducible rfl
      try simp only [Act.put, List.setIfInBounds_toArray, List.set_cons_zero, List.set_cons_succ]
      refine rgn.Walk.ys rfl rfl rfl (fun W' hW' => exec_mac _ _ rfl m 0 rfl _ _ _ _ _ _ (r_mac (OM.out.only hW' (by simp))) Try.underlying25 rfl (by kernel_rfl)) ?_
      try simp only [Act.put, List.setIfInBounds_toArray, List.set_cons_zero, List.set_cons_succ]
      refine rgn.Walk.ys (v := ?_) rfl rfl rfl ?_ ?_
      rotate_left 1
      · intro W' hW'
        have q7 := ev.eqMacD 9998 l.c0 l.c1 l.c2 l.c3 l.c4 l.c5 s.c0 s.c1 s.c2 s.c3 s.c4 s.c5 W'
        rw [HMQ.out] at q7
        go_simp
        try with_reducible rfl
      try simp only [Act.put, List.setIfInBounds_toArray, List.set_cons_zero, List.set_cons_succ]
      refine rgn.Walk.ys (v := ?_) rfl rfl rfl ?_ ?_
      rotate_left 1
      · intro W' hW'
        go_simp
        try with_reducible rfl
      try simp only [Act.put, List.setIfInBounds_toArray, List.set_cons_zero, List.set_cons_succ]
      refine rgn.Walk.zs (NoPanic.normal ?_)
      clear e1 e2
      have k6 := k_st OM.out
      go_wp2_with fail
      refine wp_region_noPanic ?_
      refine rgn.regionT (R := Only []) (by kernel_rfl) (Only.refl []) (fun _ _ _ => Only.trans) (fun _ _ _ _ _ h => h) (.y 0 (.y 1 (.y 2 (.y 3 (.y 4 (.y 5 (.y 6 (.y 7 (.y 8 (.y 9 (.y 10 (.y 11 (.y 12 .z))))))))))))) (by kernel_rfl) (fun WZ hWd => ?_)
      have HWd := hid hWd; clear hWd
      clear k6
      have q8 : Only [] W WZ := Only.eq_drew (Only.refl [] _) HWd.out
      have OM := hid (OM.out.only q8 (by simp)); have OB := hid (OB.out.only q8 (by simp)); have QM := hid (QM.out.trans (q8.more (by simp)))
      clear q8 HWd
      have k6 := k_st OM.out
      refine rgn.Walk.ys (v := ?_) rfl rfl rfl ?_ ?_
      rotate_left 1
      · intro W' hW'
        go_simp
        try with_reducible rfl
      try simp only [Act.put, List.setIfInBounds_toArray, List.set_cons_zero, List.set_cons_succ]
      refine rgn.Walk.ys (v := ?_) rfl rfl rfl ?_ ?_
      rotate_left 1
      · intro W' hW'
        have q0 := l_ty (OB.out.only hW' (by simp))
        go_simp
        try with_reducible rfl
      try simp only [Act.put, List.setIfInBounds_toArray, List.set_cons_zero, List.set_cons_succ]
      refine rgn.Walk.ys (v := ?_) rfl rfl rfl ?_ ?_
      rotate_left 1
      · intro W' hW'
        go_simp
        try with_reducible rfl
      try simp only [Act.put, List.setIfInBounds_toArray, List.set_cons_zero, List.set_cons_succ]
      refine rgn.Walk.ys (v := ?_) rfl rfl rfl ?_ ?_
      rotate_left 1
      · intro W' hW'
        go_simp
        try with_reducible rfl
      try simp only [Act.put, List.setIfInBounds_toArray, List.set_cons_zero, List.set_cons_succ]
      refine rgn.Walk.ys (v := ?_) rfl rfl rfl ?_ ?_
      rotate_left 1
      · intro W' hW'
        go_simp
        try with_reducible rfl
      try simp only [Act.put, List.setIfInBounds_toArray, List.set_cons_zero, List.set_cons_succ]
      refine rgn.Walk.ys (v := ?_) rfl rfl rfl ?_ ?_
      rotate_left 1
      · intro W' hW'
        have q0 := l_yo (OB.out.only hW' (by simp))
        go_simp
        try with_reducible rfl
      try simp only [Act.put, List.setIfInBounds_toArray, List.set_cons_zero, List.set_cons_succ]
      refine rgn.Walk.ys (v := ?_) rfl rfl rfl ?_ ?_
      rotate_left 1
      · intro W' hW'
        go_simp
        try with_reducible rfl
      try simp only [Act.put, List.setIfInBounds_toArray, List.set_cons_zero, List.set_cons_succ]
      refine rgn.Walk.ys (v := ?_) rfl rfl rfl ?_ ?_
      rotate_left 1
      · intro W' hW'
        go_simp
        try with_reducible rfl
      try simp only [Act.put, List.setIfInBounds_toArray, List.set_cons_zero, List.set_cons_succ]
      refine rgn.Walk.ys (v := ?_) rfl rfl rfl ?_ ?_
      rotate_left 1
      · intro W' hW'
        go_simp
        try with_reducible rfl
      try simp only [Act.put, List.setIfInBounds_toArray, List.set_cons_zero, List.set_cons_succ]
      refine rgn.Walk.ys (v := ?_) rfl rfl rfl ?_ ?_
      rotate_left 1
      · intro W' hW'
        go_simp
        try with_reducible rfl
      try simp only [Act.put, List.setIfInBounds_toArray, List.set_cons_zero, List.set_cons_succ]
      refine rgn.Walk.ys (v := ?_) rfl rfl rfl ?_ ?_
      rotate_left 1
      · intro W' hW'
        have q0 := k_le_yo (OM.out.only hW' (by simp))
        go_simp
        try with_reducible rfl
      try simp only [Act.put, List.setIfInBounds_toArray, List.set_cons_zero, List.set_cons_succ]
      refine rgn.Walk.ys (v := ?_) rfl rfl rfl ?_ ?_
      rotate_left 1
      · intro W' hW'
        go_simp
        try with_reducible rfl
      try simp only [Act.put, List.setIfInBounds_toArray, List.set_cons_zero, List.set_cons_succ]
      refine rgn.Walk.ys (v := ?_) rfl rfl rfl ?_ ?_
      rotate_left 1
      · intro W' hW'
        go_simp
        try with_reducible rfl
      try simp only [Act.put, List.setIfInBounds_toArray, List.set_cons_zero, List.set_cons_succ]
      refine rgn.Walk.zs (NoPanic.normal ?_)
      have c4 := l_ty OB.out
      go_wp2_with fail
      go_ret
      exact step_none OM.out QM.out
  · have t1 : (l.ty == 5) = false := by simp [g1]
    by_cases g3 : l.ty = 6
    · have t3 : (l.ty == 6) = true := by simp [g3]
      have HG : Hid (s.dgranted l s.le.yo s.le.sv now draw = (s.dbegin now draw, [(s.dbegin now draw).sent 1 0 0])) := hid (by unfold Mc.dgranted; rw [if_neg (by simp [g1]), if_pos g3])
      rw [HG.out]
      clear g1 g3
      go_enter Try.func20, Try.ntmps20
      go_wp2_with fail
      refine wp_region_noPanic ?_
      refine rgn.regionT (R := Only []) (by kernel_rfl) (Only.refl []) (fun _ _ _ => Only.trans) (fun _ _ _ _ _ h => h) (.y 0 (.y 1 (.y 2 (.y 3 (.y 4 (.y 5 (.y 6 (.y 7 (.y 8 (.y 9 (.y 10 (.y 11 (.y 12 (.y 13 (.y 14 (.y 15 (.y 16 (.y 17 (.y 18 (.y 19 (.y 20 .z))))))))))))))))))))) (by kernel_rfl) (fun W hWd => ?_)
      have HWd := hid hWd; clear hWd
      have q8 : Only [] W1 W := Only.eq_drew (Only.refl [] _) HWd.out
      have OM := hid (OM.out.only q8 (by simp)); have OB := hid (OB.out.only q8 (by simp)); have QM := hid (QM.out.trans (q8.more (by simp)))
      clear q8 HWd
      refine rgn.Walk.ys (v := ?_) rfl rfl rfl ?_ ?_
      rotate_left 1
      · intro W' hW'
        go_simp
        try with_reducible rfl
      try simp only [Act.put, List.setIfInBounds_toArray, List.set_cons_zero, List.set_cons_succ]
      refine rgn.Walk.ys (v := ?_) rfl rfl rfl ?_ ?_
      rotate_left 1
      · intro W' hW'
        have q0 := l_op (OB.out.only hW' (by simp))
        go_simp
        try with_reducible rfl
      try simp only [Act.put, List.setIfInBounds_toArray, List.set_cons_zero, List.set_cons_succ]
      refine rgn.Walk.ys (v := ?_) rfl rfl rfl ?_ ?_
      rotate_left 1
      · intro W' hW'
        go_simp
        try with_reducible rfl
      try simp only [Act.put, List.setIfInBounds_toArray, List.set_cons_zero, List.set_cons_succ]
      refine rgn.Walk.ys (v := ?_) rfl rfl rfl ?_ ?_
      rotate_left 1
      · intro W' hW'
        go_simp
        try with_reducible rfl
      try simp only [Act.put, List.setIfInBounds_toArray, List.set_cons_zero, List.set_cons_succ]
      refine rgn.Walk.ys (v := ?_) rfl rfl rfl ?_ ?_
      rotate_left 1
      · intro W' hW'
        go_simp
        try with_reducible rfl
      try simp only [Act.put, List.setIfInBounds_toArray, List.set_cons_zero, List.set_cons_succ]
      refine rgn.Walk.ys (v := ?_) rfl rfl rfl ?_ ?_
      rotate_left 1
      · intro W' hW'
        have q0 := l_id (OB.out.only hW' (by simp))
        go_simp
        try with_reducible rfl
      try simp only [Act.put, List.setIfInBounds_toArray, List.set_cons_zero, List.set_cons_succ]
      refine rgn.Walk.ys (v := ?_) rfl rfl rfl ?_ ?_
      rotate_left 1
      · intro W' hW'
        go_simp
        try with_reducible rfl
      try simp only [Act.put, List.setIfInBounds_toArray, List.set_cons_zero, List.set_cons_succ]
      refine rgn.Walk.ys (v := ?_) rfl rfl rfl ?_ ?_
      rotate_left 1
      · intro W' hW'
        go_simp
        try with_reducible rfl
      try simp only [Act.put, List.setIfInBounds_toArray, List.set_cons_zero, List.set_cons_succ]
      refine rgn.Walk.ys (v := ?_) rfl rfl rfl ?_ ?_
      rotate_left 1
      · intro W' hW'
        go_simp
        try with_reducible rfl
      try simp only [Act.put, List.setIfInBounds_toArray, List.set_cons_zero, List.set_cons_succ]
      refine rgn.Walk.ys (v := ?_) rfl rfl rfl ?_ ?_
      rotate_left 1
      · intro W' hW'
        have q0 := k_id (OM.out.only hW' (by simp))
        go_simp
        try with_reducible rfl
      try simp only [Act.put, List.setIfInBounds_toArray, List.set_cons_zero, List.set_cons_succ]
      refine rgn.Walk.ys (v := ?_) rfl rfl rfl ?_ ?_
      rotate_left 1
      · intro W' hW'
        go_simp
        try with_reducible rfl
      try simp only [Act.put, List.setIfInBounds_toArray, List.set_cons_zero, List.set_cons_succ]
      refine rgn.Walk.ys (v := ?_) rfl rfl rfl ?_ ?_
      rotate_left 1
      · intro W' hW'
        go_simp
        try with_reducible rfl
      try simp only [Act.put, List.setIfInBounds_toArray, List.set_cons_zero, List.set_cons_succ]
      refine rgn.Walk.ys (v := ?_) rfl rfl rfl ?_ ?_
      rotate_left 1
      · intro W' hW'
        go_simp
        try with_reducible rfl
      try simp only [Act.put, List.setIfInBounds_toArray, List.set_cons_zero, List.set_cons_succ]
      refine rgn.Walk.ys (v := ?_) rfl rfl rfl ?_ ?_
      rotate_left 1
      · intro W' hW'
        go_simp
        try with_reducible rfl
      try simp only [Act.put, List.setIfInBounds_toArray, List.set_cons_zero, List.set_cons_succ]
      refine rgn.Walk.ys rfl rfl rfl (fun W' hW' => exec_mac _ _ rfl b 3 rfl _ _ _ _ _ _ (r_lmac (OB.out.only hW' (by simp))) Try.underlying25 rfl (by kernel_rfl)) ?_
      try simp only [Act.put, List.setIfInBounds_toArray, List.set_cons_zero, List.set_cons_succ]
      refine rgn.Walk.ys (v := ?_) rfl rfl rfl ?_ ?_
      rotate_left 1
      · intro W' hW'
        go_simp
        try with_reducible rfl
      try simp only [Act.put, List.setIfInBounds_toArray, List.set_cons_zero, List.set_cons_succ]
      refine rgn.Walk.ys (v := ?_) rfl rfl rfl ?_ ?_
      rotate_left 1
      · intro W' hW'
        go_simp
        try with_reducible rfl
      try simp only [Act.put, List.setIfInBounds_toArray, List.set_cons_zero, List.set_cons_succ]
      refine rgn.Walk.ys (v := ?_) rfl rfl rfl ?_ ?_
      rotate_left 1
      · intro W' hW'
        go_simp
        try with_reducible rfl
      try simp only [Act.put, List.setIfInBounds_toArray, List.set_cons_zero, List.set_cons_succ]
      refine rgn.Walk.ys rfl rfl rfl (fun W' hW' => exec_mac _ _ rfl m 0 rfl _ _ _ _ _ _ (r_mac (OM.out.only hW' (by simp))) Try.underlying25 rfl (by kernel_rfl)) ?_
      try simp only [Act.put, List.setIfInBounds_toArray, List.set_cons_zero, List.set_cons_succ]
      refine rgn.Walk.ys (v := ?_) rfl rfl rfl ?_ ?_
      rotate_left 1
      · intro W' hW'
        have q7 := ev.eqMacD 9998 l.c0 l.c1 l.c2 l.c3 l.c4 l.c5 s.c0 s.c1 s.c2 s.c3 s.c4 s.c5 W'
        rw [HMQ.out] at q7
        go_simp
        try with_reducible rfl
      try simp only [Act.put, List.setIfInBounds_toArray, List.set_cons_zero, List.set_cons_succ]
      refine rgn.Walk.ys (v := ?_) rfl rfl rfl ?_ ?_
      rotate_left 1
      · intro W' hW'
        go_simp
        try with_reducible rfl
      try simp only [Act.put, List.setIfInBounds_toArray, List.set_cons_zero, List.set_cons_succ]
      refine rgn.Walk.zs (NoPanic.normal ?_)
      clear e1 e2
      have k6 := k_st OM.out
      go_wp2_with fail
      refine wp_region_noPanic ?_
      refine rgn.regionT (R := Only []) (by kernel_rfl) (Only.refl []) (fun _ _ _ => Only.trans) (fun _ _ _ _ _ h => h) (.y 0 (.y 1 (.y 2 (.y 3 (.y 4 (.y 5 (.y 6 (.y 7 (.y 8 (.y 9 (.y 10 (.y 11 (.y 12 .z))))))))))))) (by kernel_rfl) (fun WZ hWd => ?_)
      have HWd := hid hWd; clear hWd
      clear k6
      have q8 : Only [] W WZ := Only.eq_drew (Only.refl [] _) HWd.out
      have OM := hid (OM.out.only q8 (by simp)); have OB := hid (OB.out.only q8 (by simp)); have QM := hid (QM.out.trans (q8.more (by simp)))
      clear q8 HWd
      have k6 := k_st OM.out
      refine rgn.Walk.ys (v := ?_) rfl rfl rfl ?_ ?_
      rotate_left 1
      · intro W' hW'
        go_simp
        try with_reducible rfl
      try simp only [Act.put, List.setIfInBounds_toArray, List.set_cons_zero, List.set_cons_succ]
      refine rgn.Walk.ys (v := ?_) rfl rfl rfl ?_ ?_
      rotate_left 1
      · intro W' hW'
        have q0 := l_ty (OB.out.only hW' (by simp))
        go_simp
        try with_reducible rfl
      try simp only [Act.put, List.setIfInBounds_toArray, List.set_cons_zero, List.set_cons_succ]
      refine rgn.Walk.ys (v := ?_) rfl rfl rfl ?_ ?_
      rotate_left 1
      · intro W' hW'
        go_simp
        try with_reducible rfl
      try simp only [Act.put, List.setIfInBounds_toArray, List.set_cons_zero, List.set_cons_succ]
      refine rgn.Walk.ys (v := ?_) rfl rfl rfl ?_ ?_
      rotate_left 1
      · intro W' hW'
        go_simp
        try with_reducible rfl
      try simp only [Act.put, List.setIfInBounds_toArray, List.set_cons_zero, List.set_cons_succ]
      refine rgn.Walk.yn rfl rfl rfl ?_
      try simp only [Act.put, List.setIfInBounds_toArray, List.set_cons_zero, List.set_cons_succ]
      refine rgn.Walk.yn rfl rfl rfl ?_
      try simp only [Act.put, List.setIfInBounds_toArray, List.set_cons_zero, List.set_cons_succ]
      refine rgn.Walk.yn rfl rfl rfl ?_
      try simp only [Act.put, List.setIfInBounds_toArray, List.set_cons_zero, List.set_cons_succ]
      refine rgn.Walk.yn rfl rfl rfl ?_
      try simp only [Act.put, List.setIfInBounds_toArray, List.set_cons_zero, List.set_cons_succ]
      refine rgn.Walk.yn rfl rfl rfl ?_
      try simp only [Act.put, List.setIfInBounds_toArray, List.set_cons_zero, List.set_cons_succ]
      refine rgn.Walk.yn rfl rfl rfl ?_
      try simp only [Act.put, List.setIfInBounds_toArray, List.set_cons_zero, List.set_cons_succ]
      refine rgn.Walk.yn rfl rfl rfl ?_
      try simp only [Act.put, List.setIfInBounds_toArray, List.set_cons_zero, List.set_cons_succ]
      refine rgn.Walk.yn rfl rfl rfl ?_
      try simp only [Act.put, List.setIfInBounds_toArray, List.set_cons_zero, List.set_cons_succ]
      refine rgn.Walk.ys (v := ?_) rfl rfl rfl ?_ ?_
      rotate_left 1
      · intro W' hW'
        go_simp
        try with_reducible rfl
      try simp only [Act.put, List.setIfInBounds_toArray, List.set_cons_zero, List.set_cons_succ]
      refine rgn.Walk.zs (NoPanic.normal ?_)
      have c4 := l_ty OB.out
      go_wp2_with fail
      refine (beginD _ m T tl s now draw OM.out HNow.out).mono ?_
      rintro x w3 ⟨A, n, c, rfl, hl, hr, hf, hO3, o3⟩
      have HL := hid hl; have HR := hid hr; have HF := hid hf; have OM := hid hO3; have HZ := hid QM.out.size; have QM := hid (QM.out.trans o3)
      clear hl hr hf hO3 o3
      clear k6 c4 t1 t3
      go_wp2_with fail
      go_ret
      exact ⟨A, n, c, rfl, HL.out, HR.out, fun b off e => Nat.le_trans HZ.out (HF.out b off e), OM.out, QM.out⟩
    · have t3 : (l.ty == 6) = false := by simp [g3]
      have HG : Hid (s.dgranted l s.le.yo s.le.sv now draw = (s, [])) := hid (by unfold Mc.dgranted; rw [if_neg (by simp [g1]), if_neg g3])
      rw [HG.out]
      clear g1 g3
      go_enter Try.func20, Try.ntmps20
      go_wp2_with fail
      refine wp_region_noPanic ?_
      refine rgn.regionT (R := Only []) (by kernel_rfl) (Only.refl []) (fun _ _ _ => Only.trans) (fun _ _ _ _ _ h => h) (.y 0 (.y 1 (.y 2 (.y 3 (.y 4 (.y 5 (.y 6 (.y 7 (.y 8 (.y 9 (.y 10 (.y 11 (.y 12 (.y 13 (.y 14 (.y 15 (.y 16 (.y 17 (.y 18 (.y 19 (.y 20 .z))))))))))))))))))))) (by kernel_rfl) (fun W hWd => ?_)
      have HWd := hid hWd; clear hWd
      have q8 : Only [] W1 W := Only.eq_drew (Only.refl [] _) HWd.out
      have OM := hid (OM.out.only q8 (by simp)); have OB := hid (OB.out.only q8 (by simp)); have QM := hid (QM.out.trans (q8.more (by simp)))
      clear q8 HWd
      refine rgn.Walk.ys (v := ?_) rfl rfl rfl ?_ ?_
      rotate_left 1
      · intro W' hW'
        go_simp
        try with_reducible rfl
      try simp only [Act.put, List.setIfInBounds_toArray, List.set_cons_zero, List.set_cons_succ]
      refine rgn.Walk.ys (v := ?_) rfl rfl rfl ?_ ?_
      rotate_left 1
      · intro W' hW'
        have q0 := l_op (OB.out.only hW' (by simp))
        go_simp
        try with_reducible rfl
      try simp only [Act.put, List.setIfInBounds_toArray, List.set_cons_zero, List.set_cons_succ]
      refine rgn.Walk.ys (v := ?_) rfl rfl rfl ?_ ?_
      rotate_left 1
      · intro W' hW'
        go_simp
        try with_reducible rfl
      try simp only [Act.put, List.setIfInBounds_toArray, List.set_cons_zero, List.set_cons_succ]
      refine rgn.Walk.ys (v := ?_) rfl rfl rfl ?_ ?_
      rotate_left 1
      · intro W' hW'
        go_simp
        try with_reducible rfl
      try simp only [Act.put, List.setIfInBounds_toArray, List.set_cons_zero, List.set_cons_succ]
      refine rgn.Walk.ys (v := ?_) rfl rfl rfl ?_ ?_
      rotate_left 1
      · intro W' hW'
        go_simp
        try with_reducible rfl
      try simp only [Act.put, List.setIfInBounds_toArray, List.set_cons_zero, List.set_cons_succ]
      refine rgn.Walk.ys (v := ?_) rfl rfl rfl ?_ ?_
      rotate_left 1
      · intro W' hW'
        have q0 := l_id (OB.out.only hW' (by simp))
        go_simp
        try with_reducible rfl
      try simp only [Act.put, List.setIfInBounds_toArray, List.set_cons_zero, List.set_cons_succ]
      refine rgn.Walk.ys (v := ?_) rfl rfl rfl ?_ ?_
      rotate_left 1
      · intro W' hW'
        go_simp
        try with_reducible rfl
      try simp only [Act.put, List.setIfInBounds_toArray, List.set_cons_zero, List.set_cons_succ]
      refine rgn.Walk.ys (v := ?_) rfl rfl rfl ?_ ?_
      rotate_left 1
      · intro W' hW'
        go_simp
        try with_reducible rfl
      try simp only [Act.put, List.setIfInBounds_toArray, List.set_cons_zero, List.set_cons_succ]
      refine rgn.Walk.ys (v := ?_) rfl rfl rfl ?_ ?_
      rotate_left 1
      · intro W' hW'
        go_simp
        try with_reducible rfl
      try simp only [Act.put, List.setIfInBounds_toArray, List.set_cons_zero, List.set_cons_succ]
      refine rgn.Walk.ys (v := ?_) rfl rfl rfl ?_ ?_
      rotate_left 1
      · intro W' hW'
        have q0 := k_id (OM.out.only hW' (by simp))
        go_simp
        try with_reducible rfl
      try simp only [Act.put, List.setIfInBounds_toArray, List.set_cons_zero, List.set_cons_succ]
      refine rgn.Walk.ys (v := ?_) rfl rfl rfl ?_ ?_
      rotate_left 1
      · intro W' hW'
        go_simp
        try with_reducible rfl
      try simp only [Act.put, List.setIfInBounds_toArray, List.set_cons_zero, List.set_cons_succ]
      refine rgn.Walk.ys (v := ?_) rfl rfl rfl ?_ ?_
      rotate_left 1
      · intro W' hW'
        go_simp
        try with_reducible rfl
      try simp only [Act.put, List.setIfInBounds_toArray, List.set_cons_zero, List.set_cons_succ]
      refine rgn.Walk.ys (v := ?_) rfl rfl rfl ?_ ?_
      rotate_left 1
      · intro W' hW'
        go_simp
        try with_reducible rfl
      try simp only [Act.put, List.setIfInBounds_toArray, List.set_cons_zero, List.set_cons_succ]
      refine rgn.Walk.ys (v := ?_) rfl rfl rfl ?_ ?_
      rotate_left 1
      · intro W' hW'
        go_simp
        try with_reducible rfl
      try simp only [Act.put, List.setIfInBounds_toArray, List.set_cons_zero, List.set_cons_succ]
      refine rgn.Walk.ys rfl rfl rfl (fun W' hW' => exec_mac _ _ rfl b 3 rfl _ _ _ _ _ _ (r_lmac (OB.out.only hW' (by simp))) Try.underlying25 rfl (by kernel_rfl)) ?_
      try simp only [Act.put, List.setIfInBounds_toArray, List.set_cons_zero, List.set_cons_succ]
      refine rgn.Walk.ys (v := ?_) rfl rfl rfl ?_ ?_
      rotate_left 1
      · intro W' hW'
        go_simp
        try with_reducible rfl
      try simp only [Act.put, List.setIfInBounds_toArray, List.set_cons_zero, List.set_cons_succ]
      refine rgn.Walk.ys (v := ?_) rfl rfl rfl ?_ ?_
      rotate_left 1
      · intro W' hW'
        go_simp
        try with_reducible rfl
      try simp only [Act.put, List.setIfInBounds_toArray, List.set_cons_zero, List.set_cons_succ]
      refine rgn.Walk.ys (v := ?_) rfl rfl rfl ?_ ?_
      rotate_left 1
      · intro W' hW'
        go_simp
        try with_reducible rfl
      try simp only [Act.put, List.setIfInBounds_toArray, List.set_cons_zero, List.set_cons_succ]
      refine rgn.Walk.ys rfl rfl rfl (fun W' hW' => exec_mac _ _ rfl m 0 rfl _ _ _ _ _ _ (r_mac (OM.out.only hW' (by simp))) Try.underlying25 rfl (by kernel_rfl)) ?_
      try simp only [Act.put, List.setIfInBounds_toArray, List.set_cons_zero, List.set_cons_succ]
      refine rgn.Walk.ys (v := ?_) rfl rfl rfl ?_ ?_
      rotate_left 1
      · intro W' hW'
        have q7 := ev.eqMacD 9998 l.c0 l.c1 l.c2 l.c3 l.c4 l.c5 s.c0 s.c1 s.c2 s.c3 s.c4 s.c5 W'
        rw [HMQ.out] at q7
        go_simp
        try with_reducible rfl
      try simp only [Act.put, List.setIfInBounds_toArray, List.set_cons_zero, List.set_cons_succ]
      refine rgn.Walk.ys (v := ?_) rfl rfl rfl ?_ ?_
      rotate_left 1
      · intro W' hW'
        go_simp
        try with_reducible rfl
      try simp only [Act.put, List.setIfInBounds_toArray, List.set_cons_zero, List.set_cons_succ]
      refine rgn.Walk.zs (NoPanic.normal ?_)
      clear e1 e2
      have k6 := k_st OM.out
      go_wp2_with fail
      refine wp_region_noPanic ?_
      refine rgn.regionT (R := Only []) (by kernel_rfl) (Only.refl []) (fun _ _ _ => Only.trans) (fun _ _ _ _ _ h => h) (.y 0 (.y 1 (.y 2 (.y 3 (.y 4 (.y 5 (.y 6 (.y 7 (.y 8 (.y 9 (.y 10 (.y 11 (.y 12 .z))))))))))))) (by kernel_rfl) (fun WZ hWd => ?_)
      have HWd := hid hWd; clear hWd
      clear k6
      have q8 : Only [] W WZ := Only.eq_drew (Only.refl [] _) HWd.out
      have OM := hid (OM.out.only q8 (by simp)); have OB := hid (OB.out.only q8 (by simp)); have QM := hid (QM.out.trans (q8.more (by simp)))
      clear q8 HWd
      have k6 := k_st OM.out
      refine rgn.Walk.ys (v := ?_) rfl rfl rfl ?_ ?_
      rotate_left 1
      · intro W' hW'
        go_simp
        try with_reducible rfl
      try simp only [Act.put, List.setIfInBounds_toArray, List.set_cons_zero, List.set_cons_succ]
      refine rgn.Walk.ys (v := ?_) rfl rfl rfl ?_ ?_
      rotate_left 1
      · intro W' hW'
        have q0 := l_ty (OB.out.only hW' (by simp))
        go_simp
        try with_reducible rfl
      try simp only [Act.put, List.setIfInBounds_toArray, List.set_cons_zero, List.set_cons_succ]
      refine rgn.Walk.ys (v := ?_) rfl rfl rfl ?_ ?_
      rotate_left 1
      · intro W' hW'
        go_simp
        try with_reducible rfl
      try simp only [Act.put, List.setIfInBounds_toArray, List.set_cons_zero, List.set_cons_succ]
      refine rgn.Walk.ys (v := ?_) rfl rfl rfl ?_ ?_
      rotate_left 1
      · intro W' hW'
        go_simp
        try with_reducible rfl
      try simp only [Act.put, List.setIfInBounds_toArray, List.set_cons_zero, List.set_cons_succ]
      refine rgn.Walk.yn rfl rfl rfl ?_
      try simp only [Act.put, List.setIfInBounds_toArray, List.set_cons_zero, List.set_cons_succ]
      refine rgn.Walk.yn rfl rfl rfl ?_
      try simp only [Act.put, List.setIfInBounds_toArray, List.set_cons_zero, List.set_cons_succ]
      refine rgn.Walk.yn rfl rfl rfl ?_
      try simp only [Act.put, List.setIfInBounds_toArray, List.set_cons_zero, List.set_cons_succ]
      refine rgn.Walk.yn rfl rfl rfl ?_
      try simp only [Act.put, List.setIfInBounds_toArray, List.set_cons_zero, List.set_cons_succ]
      refine rgn.Walk.yn rfl rfl rfl ?_
      try simp only [Act.put, List.setIfInBounds_toArray, List.set_cons_zero, List.set_cons_succ]
      refine rgn.Walk.yn rfl rfl rfl ?_
      try simp only [Act.put, List.setIfInBounds_toArray, List.set_cons_zero, List.set_cons_succ]
      refine rgn.Walk.yn rfl rfl rfl ?_
      try simp only [Act.put, List.setIfInBounds_toArray, List.set_cons_zero, List.set_cons_succ]
      refine rgn.Walk.yn rfl rfl rfl ?_
      try simp only [Act.put, List.setIfInBounds_toArray, List.set_cons_zero, List.set_cons_succ]
      refine rgn.Walk.ys (v := ?_) rfl rfl rfl ?_ ?_
      rotate_left 1
      · intro W' hW'
        go_simp
        try with_reducible rfl
      try simp only [Act.put, List.setIfInBounds_toArray, List.set_cons_zero, List.set_cons_succ]
      refine rgn.Walk.zs (NoPanic.normal ?_)
      have c4 := l_ty OB.out
      go_wp2_with fail
      go_ret
      exact step_none OM.out QM.out
end Go.Proofs.Ytdpmjghdmpaehaa.lp
/-
  Chapter 23 (lease): the document's client: Tick, by a walk of its text. Conditions: none but those typed.
-/
namespace Go.Proofs.Ytdpmjghdmpaehaa.lp
set_option linter.unusedVariables false
set_option linter.unusedSimpArgs false
open Go.ChangeShapes Go.WideShapes Go.ChangeAt Go.RowKit Go.IntWalk Go.Lib
def Mc.dagain (s : Mc) (now draw : Int) : Mc × List Lm := if 4 ≤ s.tr then (s.dbegin now draw, [(s.dbegin now draw).sent 1 0 0]) else ({s with tr := s.tr + 1, due := laterZ now (40 * (s.tr + 1))}, [s.asks])
set_option maxRecDepth 100000 in
set_option maxHeartbeats 8000000 in
theorem tickDB (w : World) (m : Nat) (T : TypeId) (tl : List Value) (s : Mc) (now draw : Int) (hO : Ob w m T (s.cs tl)) (hn : Tk now) (ht : 0 ≤ s.le.ti ∧ s.le.ti ≤ 2147483647) (hbe : Tk s.be) (hno : 3 ≤ s.st ∧ laterZ s.be (10 * s.le.ti) ≤ now) :
    Calls Try.prog 22 #[.pointer (some ⟨m, 0, none⟩), .int .i64 now, .int .i64 draw] w (StepE m T tl (s.dbegin now draw) [(s.dbegin now draw).sent 1 0 0] w) := by
  have OM := hid hO; have QM := hid (Only.refl [m] w); have HNow := hid hn; have HBE := hid hbe
  obtain ⟨z, hz⟩ : ∃ z, 10 * s.le.ti = z := ⟨_, rfl⟩
  have hzb : 0 ≤ z ∧ z ≤ 21474836470 := by omega
  have z1 : IntKind.i64.wrap (10 * s.le.ti) = z := by rw [hz]; exact i64_in _ (by omega)
  obtain ⟨la, hla⟩ : ∃ la, laterZ s.be z = la := ⟨_, rfl⟩
  have HLA := hid hla
  simp only [hz, hla] at hno
  have k6 := k_st OM.out; have k8 := k_due OM.out; have k9 := k_tr OM.out; have k38 := k_le_ti OM.out; have k42 := k_be OM.out
  clear hO hn ht hbe hz hla
  have hst : 3 ≤ s.st := hno.1
  have hge : la ≤ now := hno.2
  clear hno
  go_enter Try.func22, Try.ntmps22
  go_wp2_with fail
  refine (rlater _ s.be z (by omega) HBE.out).mono ?_
  rintro x w2 ⟨rfl, rfl⟩
  rw [HLA.out]
  go_wp2_with fail
  refine (beginD _ m T tl s now draw OM.out HNow.out).mono ?_
  rintro x w3 ⟨A, n, c, rfl, hl, hr, hf, hO3, o3⟩
  have HL := hid hl; have HR := hid hr; have HF := hid hf; have OM := hid hO3; have HZ := hid QM.out.size; have QM := hid (QM.out.trans o3)
  clear hl hr hf hO3 o3
  clear k6 k8 k9 k38 k42 z1 hge hst
  go_wp2_with fail
  go_ret
  exact ⟨A, n, c, rfl, HL.out, HR.out, fun b off e => Nat.le_trans HZ.out (HF.out b off e), OM.out, QM.out⟩
set_option maxRecDepth 100000 in
set_option maxHeartbeats 8000000 in
theorem tickDN (w : World) (m : Nat) (T : TypeId) (tl : List Value) (s : Mc) (now draw : Int) (hO : Ob w m T (s.cs tl)) (hn : Tk now) (ht : 0 ≤ s.le.ti ∧ s.le.ti ≤ 2147483647) (hbe : Tk s.be) (hno : ¬ (3 ≤ s.st ∧ laterZ s.be (10 * s.le.ti) ≤ now)) (hd : s.st = 0 ∨ now < s.due) :
    Calls Try.prog 22 #[.pointer (some ⟨m, 0, none⟩), .int .i64 now, .int .i64 draw] w (StepE m T tl s [] w) := by
  have OM := hid hO; have QM := hid (Only.refl [m] w); have HNow := hid hn; have HBE := hid hbe
  obtain ⟨z, hz⟩ : ∃ z, 10 * s.le.ti = z := ⟨_, rfl⟩
  have hzb : 0 ≤ z ∧ z ≤ 21474836470 := by omega
  have z1 : IntKind.i64.wrap (10 * s.le.ti) = z := by rw [hz]; exact i64_in _ (by omega)
  obtain ⟨la, hla⟩ : ∃ la, laterZ s.be z = la := ⟨_, rfl⟩
  have HLA := hid hla
  simp only [hz, hla] at hno
  have k6 := k_st OM.out; have k8 := k_due OM.out; have k9 := k_tr OM.out; have k38 := k_le_ti OM.out; have k42 := k_be OM.out
  clear hO hn ht hbe hz hla
  by_cases h0 : s.st = 0
  · have f0 : (s.st == 0) = true := by simp [h0]
    have hst : ¬ 3 ≤ s.st := by omega
    clear h0 hd hno
    go_enter Try.func22, Try.ntmps22
    go_wp2_with fail
    go_ret
    exact step_none OM.out QM.out
  · have f0 : (s.st == 0) = false := by simp [h0]
    have hdu : now < s.due := hd.resolve_left h0
    clear h0 hd
    by_cases hst : 3 ≤ s.st
    · have hge : ¬ la ≤ now := fun e => hno ⟨hst, e⟩
      clear hno
      go_enter Try.func22, Try.ntmps22
      go_wp2_with fail
      refine (rlater _ s.be z (by omega) HBE.out).mono ?_
      rintro x w2 ⟨rfl, rfl⟩
      rw [HLA.out]
      go_wp2_with fail
      go_ret
      exact step_none OM.out QM.out
    · clear hno
      go_enter Try.func22, Try.ntmps22
      go_wp2_with fail
      go_ret
      exact step_none OM.out QM.out
set_option maxRecDepth 100000 in
set_option maxHeartbeats 8000000 in
theorem tickDA (w : World) (m : Nat) (T : TypeId) (tl : List Value) (s : Mc) (now draw : Int) (hO : Ob w m T (s.cs tl)) (hn : Tk now) (ht : 0 ≤ s.le.ti ∧ s.le.ti ≤ 2147483647) (hbe : Tk s.be) (hno : ¬ (3 ≤ s.st ∧ laterZ s.be (10 * s.le.ti) ≤ now)) (hd : ¬ now < s.due) (hs : s.st = 1 ∨ s.st = 2) (htr : 0 ≤ s.tr ∧ s.tr ≤ 4) :
    Calls Try.prog 22 #[.pointer (some ⟨m, 0, none⟩), .int .i64 now, .int .i64 draw] w (StepE m T tl (s.dagain now draw).1 (s.dagain now draw).2 w) := by
  have OM := hid hO; have QM := hid (Only.refl [m] w); have HNow := hid hn; have HBE := hid hbe
  obtain ⟨z, hz⟩ : ∃ z, 10 * s.le.ti = z := ⟨_, rfl⟩
  have hzb : 0 ≤ z ∧ z ≤ 21474836470 := by omega
  have z1 : IntKind.i64.wrap (10 * s.le.ti) = z := by rw [hz]; exact i64_in _ (by omega)
  obtain ⟨la, hla⟩ : ∃ la, laterZ s.be z = la := ⟨_, rfl⟩
  have HLA := hid hla
  simp only [hz, hla] at hno
  have k6 := k_st OM.out; have k8 := k_due OM.out; have k9 := k_tr OM.out; have k38 := k_le_ti OM.out; have k42 := k_be OM.out
  clear hO hn ht hbe hz hla
  have f0 : (s.st == 0) = false := by rcases hs with h | h <;> simp [h]
  have hst : ¬ 3 ≤ s.st := by omega
  clear hno
  by_cases h4 : 4 ≤ s.tr
  · have HG : Hid (s.dagain now draw = (s.dbegin now draw, [(s.dbegin now draw).sent 1 0 0])) := hid (if_pos h4)
    rw [HG.out]
    rcases hs with hs | hs
    · have f1 : (s.st == 1) = true := by simp [hs]
      clear hs
      go_enter Try.func22, Try.ntmps22
      go_wp2_with fail
      refine (beginD _ m T tl s now draw OM.out HNow.out).mono ?_
      rintro x w3 ⟨A, n, c, rfl, hl, hr, hf, hO3, o3⟩
      have HL := hid hl; have HR := hid hr; have HF := hid hf; have OM := hid hO3; have HZ := hid QM.out.size; have QM := hid (QM.out.trans o3)
      clear hl hr hf hO3 o3
      clear k6 k8 k9 k38 k42 z1 f0 hst h4
      go_wp2_with fail
      go_ret
      exact ⟨A, n, c, rfl, HL.out, HR.out, fun b off e => Nat.le_trans HZ.out (HF.out b off e), OM.out, QM.out⟩
    · have f1 : (s.st == 1) = false := by simp [hs]
      have f2 : (s.st == 2) = true := by simp [hs]
      clear hs
      go_enter Try.func22, Try.ntmps22
      go_wp2_with fail
      refine (beginD _ m T tl s now draw OM.out HNow.out).mono ?_
      rintro x w3 ⟨A, n, c, rfl, hl, hr, hf, hO3, o3⟩
      have HL := hid hl; have HR := hid hr; have HF := hid hf; have OM := hid hO3; have HZ := hid QM.out.size; have QM := hid (QM.out.trans o3)
      clear hl hr hf hO3 o3
      clear k6 k8 k9 k38 k42 z1 f0 hst h4
      go_wp2_with fail
      go_ret
      exact ⟨A, n, c, rfl, HL.out, HR.out, fun b off e => Nat.le_trans HZ.out (HF.out b off e), OM.out, QM.out⟩
  · have HG : Hid (s.dagain now draw = ({s with tr := s.tr + 1, due := laterZ now (40 * (s.tr + 1))}, [s.asks])) := hid (if_neg h4)
    rw [HG.out]
    obtain ⟨y, hy⟩ : ∃ y, s.tr + 1 = y := ⟨_, rfl⟩
    have hyb : 1 ≤ y ∧ y ≤ 4 := by omega
    have w1 : IntKind.i64.wrap (s.tr + 1) = y := by rw [hy]; exact i64_in _ (by omega)
    have w2 : IntKind.i64.wrap (40 * y) = 40 * y := i64_in _ (by omega)
    rw [hy]
    clear hy htr
    rcases hs with hs | hs
    · have HAS : Hid (s.asks = s.sent 1 0 0) := hid (if_pos hs)
      have f1 : (s.st == 1) = true := by simp [hs]
      clear hs
      go_enter Try.func22, Try.ntmps22
      go_wp2_with (first | (refine wp_put rfl _ _ _ rfl m 9 rfl (.int .i64 y) rfl OM.out (by kernel_rfl) (Nat.le_trans (show _ ≤ 43 from Nat.le_of_ble_eq_true rfl) (mcs_size _ _)) (one_i _ _) (p_tr OM.out y) ?_) | fail)
      intro W9 hb9 o9
      try simp only [Act.put, List.setIfInBounds_toArray, List.set_cons_zero, List.set_cons_succ]
      have OM := hid hb9; have QM := hid (QM.out.trans o9)
      clear hb9 o9
      clear k6 k8 k9 k38 k42 z1 w1 h4 hst f0 hd
      have k9 : W9.cell? ⟨m, 9, none⟩ = some (.int .i64 y) := by have h9 := k_tr OM.out; exact h9
      go_wp2_with fail
      refine (rlater _ now (40 * y) (by omega) HNow.out).mono ?_
      rintro x w2 ⟨rfl, rfl⟩
      go_wp2_with (first | (refine wp_put rfl _ _ _ rfl m 8 rfl (.int .i64 (laterZ now (40 * y))) rfl OM.out (by kernel_rfl) (Nat.le_trans (show _ ≤ 43 from Nat.le_of_ble_eq_true rfl) (mcs_size _ _)) (one_i _ _) (p_due OM.out (laterZ now (40 * y))) ?_) | fail)
      intro W9 hb9 o9
      try simp only [Act.put, List.setIfInBounds_toArray, List.set_cons_zero, List.set_cons_succ]
      have OM := hid hb9; have QM := hid (QM.out.trans o9)
      clear hb9 o9
      clear k9 w2
      have k6 : W9.cell? ⟨m, 6, none⟩ = some (.int .i64 s.st) := by have h9 := k_st OM.out; exact h9
      go_wp2_with fail
      refine (sends1 _ m T tl _ 1 0 0 OM.out).mono ?_
      rintro x w3 ⟨A, n, c, rfl, hl, hr, hf, o3⟩
      have HL := hid hl; have HR := hid hr; have HF := hid hf; have OM := hid (OM.out.only o3 (by simp)); have HZ := hid QM.out.size; have QM := hid (QM.out.trans (o3.more (by simp)))
      clear hl hr hf o3
      clear k6
      go_wp2_with fail
      go_ret
      exact ⟨A, n, c, rfl, HL.out, (by rw [HAS.out]; exact HR.out), fun b off e => Nat.le_trans HZ.out (HF.out b off e), OM.out, QM.out⟩
    · have HAS : Hid (s.asks = s.sent 3 s.of.yo s.of.sv) := hid (if_neg (by omega))
      have f1 : (s.st == 1) = false := by simp [hs]
      have f2 : (s.st == 2) = true := by simp [hs]
      clear hs
      go_enter Try.func22, Try.ntmps22
      go_wp2_with (first | (refine wp_put rfl _ _ _ rfl m 9 rfl (.int .i64 y) rfl OM.out (by kernel_rfl) (Nat.le_trans (show _ ≤ 43 from Nat.le_of_ble_eq_true rfl) (mcs_size _ _)) (one_i _ _) (p_tr OM.out y) ?_) | fail)
      intro W9 hb9 o9
      try simp only [Act.put, List.setIfInBounds_toArray, List.set_cons_zero, List.set_cons_succ]
      have OM := hid hb9; have QM := hid (QM.out.trans o9)
      clear hb9 o9
      clear k6 k8 k9 k38 k42 z1 w1 h4 hst f0 hd
      have k9 : W9.cell? ⟨m, 9, none⟩ = some (.int .i64 y) := by have h9 := k_tr OM.out; exact h9
      go_wp2_with fail
      refine (rlater _ now (40 * y) (by omega) HNow.out).mono ?_
      rintro x w2 ⟨rfl, rfl⟩
      go_wp2_with (first | (refine wp_put rfl _ _ _ rfl m 8 rfl (.int .i64 (laterZ now (40 * y))) rfl OM.out (by kernel_rfl) (Nat.le_trans (show _ ≤ 43 from Nat.le_of_ble_eq_true rfl) (mcs_size _ _)) (one_i _ _) (p_due OM.out (laterZ now (40 * y))) ?_) | fail)
      intro W9 hb9 o9
      try simp only [Act.put, List.setIfInBounds_toArray, List.set_cons_zero, List.set_cons_succ]
      have OM := hid hb9; have QM := hid (QM.out.trans o9)
      clear hb9 o9
      clear k9 w2
      have k6 : W9.cell? ⟨m, 6, none⟩ = some (.int .i64 s.st) := by have h9 := k_st OM.out; exact h9
      go_wp2_with fail
      refine wp_region_noPanic ?_
      refine rgn.regionT (R := Only []) (by kernel_rfl) (Only.refl []) (fun _ _ _ => Only.trans) (fun _ _ _ _ _ h => h) (.y 0 (.y 1 (.y 2 (.y 3 (.y 4 (.y 5 (.y 6 (.y 7 (.y 8 (.y 9 (.y 10 (.e 11 (.e 12 .z))))))))))))) (by kernel_rfl) (fun W hWd => ?_)
      have HWd := hid hWd; clear hWd
      have q8 : Only [] W9 W := Only.eq_drew (Only.refl [] _) HWd.out
      have OM := hid (OM.out.only q8 (by simp)); have QM := hid (QM.out.trans (q8.more (by simp)))
      clear q8 HWd k6
      refine rgn.Walk.ys (v := ?_) rfl rfl rfl ?_ ?_
      rotate_left 1
      · intro W' hW'
        go_simp
        try with_reducible rfl
      try simp only [Act.put, List.setIfInBounds_toArray, List.set_cons_zero, List.set_cons_succ]
      refine rgn.Walk.ys (v := ?_) rfl rfl rfl ?_ ?_
      rotate_left 1
      · intro W' hW'
        go_simp
        try with_reducible rfl
      try simp only [Act.put, List.setIfInBounds_toArray, List.set_cons_zero, List.set_cons_succ]
      refine rgn.Walk.ys (v := ?_) rfl rfl rfl ?_ ?_
      rotate_left 1
      · intro W' hW'
        go_simp
        try with_reducible rfl
      try simp only [Act.put, List.setIfInBounds_toArray, List.set_cons_zero, List.set_cons_succ]
      refine rgn.Walk.ys (v := ?_) rfl rfl rfl ?_ ?_
      rotate_left 1
      · intro W' hW'
        go_simp
        try with_reducible rfl
      try simp only [Act.put, List.setIfInBounds_toArray, List.set_cons_zero, List.set_cons_succ]
      refine rgn.Walk.ys (v := ?_) rfl rfl rfl ?_ ?_
      rotate_left 1
      · intro W' hW'
        go_simp
        try with_reducible rfl
      try simp only [Act.put, List.setIfInBounds_toArray, List.set_cons_zero, List.set_cons_succ]
      refine rgn.Walk.ys (v := ?_) rfl rfl rfl ?_ ?_
      rotate_left 1
      · intro W' hW'
        have q0 := (show W'.cell? ⟨m, 12, none⟩ = some (.int .u32 s.of.yo) from by have h9 := k_of_yo (OM.out.only hW' (by simp)); exact h9)
        go_simp
        try with_reducible rfl
      try simp only [Act.put, List.setIfInBounds_toArray, List.set_cons_zero, List.set_cons_succ]
      refine rgn.Walk.ys (v := ?_) rfl rfl rfl ?_ ?_
      rotate_left 1
      · intro W' hW'
        go_simp
        try with_reducible rfl
      try simp only [Act.put, List.setIfInBounds_toArray, List.set_cons_zero, List.set_cons_succ]
      refine rgn.Walk.ys (v := ?_) rfl rfl rfl ?_ ?_
      rotate_left 1
      · intro W' hW'
        go_simp
        try with_reducible rfl
      try simp only [Act.put, List.setIfInBounds_toArray, List.set_cons_zero, List.set_cons_succ]
      refine rgn.Walk.ys (v := ?_) rfl rfl rfl ?_ ?_
      rotate_left 1
      · intro W' hW'
        go_simp
        try with_reducible rfl
      try simp only [Act.put, List.setIfInBounds_toArray, List.set_cons_zero, List.set_cons_succ]
      refine rgn.Walk.ys (v := ?_) rfl rfl rfl ?_ ?_
      rotate_left 1
      · intro W' hW'
        go_simp
        try with_reducible rfl
      try simp only [Act.put, List.setIfInBounds_toArray, List.set_cons_zero, List.set_cons_succ]
      refine rgn.Walk.ys (v := ?_) rfl rfl rfl ?_ ?_
      rotate_left 1
      · intro W' hW'
        have q0 := (show W'.cell? ⟨m, 20, none⟩ = some (.int .u32 s.of.sv) from by have h9 := k_of_sv (OM.out.only hW' (by simp)); exact h9)
        go_simp
        try with_reducible rfl
      try simp only [Act.put, List.setIfInBounds_toArray, List.set_cons_zero, List.set_cons_succ]
      refine rgn.Walk.es ?_
      refine rgn.stepE rfl rfl (fun K hK => ?_)
      go_simp
      refine (sends1 _ m T tl _ 3 s.of.yo s.of.sv OM.out).mono ?_
      rintro x w3 ⟨A, n, c, rfl, hl, hr, hf, o3⟩
      refine hK _ _ o3 ?_
      clear hK K
      try simp only [Act.put, List.setIfInBounds_toArray, List.set_cons_zero, List.set_cons_succ]
      have HL := hid hl; have HR := hid hr; have HF := hid hf; have OM := hid (OM.out.only o3 (by simp)); have HZ := hid QM.out.size; have QM := hid (QM.out.trans (o3.more (by simp)))
      clear hl hr hf o3
      refine rgn.Walk.es ?_
      refine rgn.stepE rfl rfl (fun K hK => ?_)
      go_simp
      refine hK _ _ ((Only.refl []) _) ?_
      clear hK K
      try simp only [Act.put, List.setIfInBounds_toArray, List.set_cons_zero, List.set_cons_succ]
      refine rgn.Walk.zs (NoPanic.normal ?_)
      go_wp2_with fail
      go_ret
      exact ⟨A, n, c, rfl, HL.out, (by rw [HAS.out]; exact HR.out), fun b off e => Nat.le_trans HZ.out (HF.out b off e), OM.out, QM.out⟩
set_option maxRecDepth 100000 in
set_option maxHeartbeats 8000000 in
theorem tickDR (w : World) (m : Nat) (T : TypeId) (tl : List Value) (s : Mc) (now draw : Int) (hO : Ob w m T (s.cs tl)) (hn : Tk now) (ht : 0 ≤ s.le.ti ∧ s.le.ti ≤ 2147483647) (hbe : Tk s.be) (hno : ¬ (3 ≤ s.st ∧ laterZ s.be (10 * s.le.ti) ≤ now)) (hd : ¬ now < s.due) (hs : 3 ≤ s.st ∧ s.st ≤ 5) :
    Calls Try.prog 22 #[.pointer (some ⟨m, 0, none⟩), .int .i64 now, .int .i64 draw] w (StepE m T tl (s.renew now).1 (s.renew now).2 w) := by
  have HU8 : Hid (10 * s.le.ti * 7 / 8 = 10 * s.le.ti / 8 * 7 + 10 * s.le.ti % 8 * 7 / 8) := hid (by omega)
  obtain ⟨lb, hlb⟩ : ∃ lb, laterZ s.be (10 * s.le.ti * 7 / 8) = lb := ⟨_, rfl⟩
  have HLB := hid hlb
  rw [HU8.out] at HLB
  have HRN : Hid (s.renew now = ({s with st := if s.st = 3 then 4 else if lb ≤ now then 5 else s.st, due := laterZ now 60}, [s.sent 3 s.le.yo 0])) := hid (by unfold Mc.renew; rw [hlb])
  clear hlb
  have OM := hid hO; have QM := hid (Only.refl [m] w); have HNow := hid hn; have HBE := hid hbe
  obtain ⟨z, hz⟩ : ∃ z, 10 * s.le.ti = z := ⟨_, rfl⟩
  have hzb : 0 ≤ z ∧ z ≤ 21474836470 := by omega
  have z1 : IntKind.i64.wrap (10 * s.le.ti) = z := by rw [hz]; exact i64_in _ (by omega)
  obtain ⟨la, hla⟩ : ∃ la, laterZ s.be z = la := ⟨_, rfl⟩
  have HLA := hid hla
  simp only [hz, hla] at hno
  have k6 := k_st OM.out; have k8 := k_due OM.out; have k9 := k_tr OM.out; have k38 := k_le_ti OM.out; have k42 := k_be OM.out
  have HLB2 : Hid (laterZ s.be (z / 8 * 7 + z % 8 * 7 / 8) = lb) := hid (by have h9 := HLB.out; rwa [hz] at h9)
  clear hO hn ht hbe hz hla
  have f0 : (s.st == 0) = false := by simpa using (show s.st ≠ 0 by omega)
  have f1 : (s.st == 1) = false := by simpa using (show s.st ≠ 1 by omega)
  have f2 : (s.st == 2) = false := by simpa using (show s.st ≠ 2 by omega)
  have hst : 3 ≤ s.st := hs.1
  have hge : ¬ la ≤ now := fun e => hno ⟨hst, e⟩
  clear hno
  rw [HRN.out]
  have v1 : IntKind.i64.wrap (z.tdiv 8) = z / 8 := by rw [Int.tdiv_eq_ediv_of_nonneg (by omega)]; exact i64_in _ (by omega)
  have v2 : IntKind.i64.wrap (z / 8 * 7) = z / 8 * 7 := i64_in _ (by omega)
  have v3 : z.tmod 8 = z % 8 := Int.tmod_eq_emod_of_nonneg (by omega)
  have v4 : IntKind.i64.wrap (z % 8) = z % 8 := i64_in _ (by omega)
  have v5 : IntKind.i64.wrap (z % 8 * 7) = z % 8 * 7 := i64_in _ (by omega)
  have v6 : IntKind.i64.wrap ((z % 8 * 7).tdiv 8) = z % 8 * 7 / 8 := by rw [Int.tdiv_eq_ediv_of_nonneg (by omega)]; exact i64_in _ (by omega)
  have v7 : IntKind.i64.wrap (z / 8 * 7 + z % 8 * 7 / 8) = z / 8 * 7 + z % 8 * 7 / 8 := i64_in _ (by omega)
  by_cases h3 : s.st = 3
  · have f3 : (s.st == 3) = true := by simp [h3]
    rw [if_pos h3]
    clear h3 hs
    go_enter Try.func22, Try.ntmps22
    go_wp2_with fail
    refine (rlater _ s.be z (by omega) HBE.out).mono ?_
    rintro x w2 ⟨rfl, rfl⟩
    rw [HLA.out]
    go_wp2_with (first | (refine wp_put rfl _ _ _ rfl m 6 rfl (.int .i64 4) rfl OM.out (by kernel_rfl) (Nat.le_trans (show _ ≤ 43 from Nat.le_of_ble_eq_true rfl) (mcs_size _ _)) (one_i _ _) (p_st OM.out 4) ?_) | fail)
    intro W9 hb9 o9
    try simp only [Act.put, List.setIfInBounds_toArray, List.set_cons_zero, List.set_cons_succ]
    have OM := hid hb9; have QM := hid (QM.out.trans o9)
    clear hb9 o9
    clear k6 k8 k9 k38 k42 z1 f0 f1 f2 f3 hst hge hd v1 v2 v3 v4 v5 v6 v7
    go_wp2_with fail
    refine (rlater _ now 60 (by omega) HNow.out).mono ?_
    rintro x w2 ⟨rfl, rfl⟩
    go_wp2_with (first | (refine wp_put rfl _ _ _ rfl m 8 rfl (.int .i64 (laterZ now 60)) rfl OM.out (by kernel_rfl) (Nat.le_trans (show _ ≤ 43 from Nat.le_of_ble_eq_true rfl) (mcs_size _ _)) (one_i _ _) (p_due OM.out (laterZ now 60)) ?_) | fail)
    intro W9 hb9 o9
    try simp only [Act.put, List.setIfInBounds_toArray, List.set_cons_zero, List.set_cons_succ]
    have OM := hid hb9; have QM := hid (QM.out.trans o9)
    clear hb9 o9
    skip
    have k28 : W9.cell? ⟨m, 28, none⟩ = some (.int .u32 s.le.yo) := by have h9 := k_le_yo OM.out; exact h9
    go_wp2_with fail
    refine (sends1 _ m T tl _ 3 s.le.yo 0 OM.out).mono ?_
    rintro x w3 ⟨A, n, c, rfl, hl, hr, hf, o3⟩
    have HL := hid hl; have HR := hid hr; have HF := hid hf; have OM := hid (OM.out.only o3 (by simp)); have HZ := hid QM.out.size; have QM := hid (QM.out.trans (o3.more (by simp)))
    clear hl hr hf o3
    clear k28
    go_wp2_with fail
    go_ret
    exact ⟨A, n, c, rfl, HL.out, HR.out, fun b off e => Nat.le_trans HZ.out (HF.out b off e), OM.out, QM.out⟩
  · have f3 : (s.st == 3) = false := by simp [h3]
    rw [if_neg h3]
    by_cases h4 : s.st = 4
    · have f4 : (s.st == 4) = true := by simp [h4]
      by_cases hlb : lb ≤ now
      · rw [if_pos hlb]
        clear h3 h4 hs
        go_enter Try.func22, Try.ntmps22
        go_wp2_with fail
        refine (rlater _ s.be z (by omega) HBE.out).mono ?_
        rintro x w2 ⟨rfl, rfl⟩
        rw [HLA.out]
        go_wp2_with fail
        refine (rlater _ s.be (z / 8 * 7 + z % 8 * 7 / 8) (by omega) HBE.out).mono ?_
        rintro x w2 ⟨rfl, rfl⟩
        rw [HLB2.out]
        go_wp2_with (first | (refine wp_put rfl _ _ _ rfl m 6 rfl (.int .i64 5) rfl OM.out (by kernel_rfl) (Nat.le_trans (show _ ≤ 43 from Nat.le_of_ble_eq_true rfl) (mcs_size _ _)) (one_i _ _) (p_st OM.out 5) ?_) | fail)
        intro W9 hb9 o9
        try simp only [Act.put, List.setIfInBounds_toArray, List.set_cons_zero, List.set_cons_succ]
        have OM := hid hb9; have QM := hid (QM.out.trans o9)
        clear hb9 o9
        clear k6 k8 k9 k38 k42 z1 f0 f1 f2 f3 f4 hst hge hd hlb v1 v2 v3 v4 v5 v6 v7
        go_wp2_with fail
        refine (rlater _ now 60 (by omega) HNow.out).mono ?_
        rintro x w2 ⟨rfl, rfl⟩
        go_wp2_with (first | (refine wp_put rfl _ _ _ rfl m 8 rfl (.int .i64 (laterZ now 60)) rfl OM.out (by kernel_rfl) (Nat.le_trans (show _ ≤ 43 from Nat.le_of_ble_eq_true rfl) (mcs_size _ _)) (one_i _ _) (p_due OM.out (laterZ now 60)) ?_) | fail)
        intro W9 hb9 o9
        try simp only [Act.put, List.setIfInBounds_toArray, List.set_cons_zero, List.set_cons_succ]
        have OM := hid hb9; have QM := hid (QM.out.trans o9)
        clear hb9 o9
        skip
        have k28 : W9.cell? ⟨m, 28, none⟩ = some (.int .u32 s.le.yo) := by have h9 := k_le_yo OM.out; exact h9
        go_wp2_with fail
        refine (sends1 _ m T tl _ 3 s.le.yo 0 OM.out).mono ?_
        rintro x w3 ⟨A, n, c, rfl, hl, hr, hf, o3⟩
        have HL := hid hl; have HR := hid hr; have HF := hid hf; have OM := hid (OM.out.only o3 (by simp)); have HZ := hid QM.out.size; have QM := hid (QM.out.trans (o3.more (by simp)))
        clear hl hr hf o3
        clear k28
        go_wp2_with fail
        go_ret
        exact ⟨A, n, c, rfl, HL.out, HR.out, fun b off e => Nat.le_trans HZ.out (HF.out b off e), OM.out, QM.out⟩
      · rw [if_neg hlb]
        clear h3 h4 hs
        go_enter Try.func22, Try.ntmps22
        go_wp2_with fail
        refine (rlater _ s.be z (by omega) HBE.out).mono ?_
        rintro x w2 ⟨rfl, rfl⟩
        rw [HLA.out]
        go_wp2_with fail
        refine (rlater _ s.be (z / 8 * 7 + z % 8 * 7 / 8) (by omega) HBE.out).mono ?_
        rintro x w2 ⟨rfl, rfl⟩
        rw [HLB2.out]
        go_wp2_with fail
        refine (rlater _ now 60 (by omega) HNow.out).mono ?_
        rintro x w2 ⟨rfl, rfl⟩
        go_wp2_with (first | (refine wp_put rfl _ _ _ rfl m 8 rfl (.int .i64 (laterZ now 60)) rfl OM.out (by kernel_rfl) (Nat.le_trans (show _ ≤ 43 from Nat.le_of_ble_eq_true rfl) (mcs_size _ _)) (one_i _ _) (p_due OM.out (laterZ now 60)) ?_) | fail)
        intro W9 hb9 o9
        try simp only [Act.put, List.setIfInBounds_toArray, List.set_cons_zero, List.set_cons_succ]
        have OM := hid hb9; have QM := hid (QM.out.trans o9)
        clear hb9 o9
        clear k6 k8 k9 k38 k42 z1 f0 f1 f2 f3 f4 hst hge hd hlb v1 v2 v3 v4 v5 v6 v7
        have k28 : W9.cell? ⟨m, 28, none⟩ = some (.int .u32 s.le.yo) := by have h9 := k_le_yo OM.out; exact h9
        go_wp2_with fail
        refine (sends1 _ m T tl _ 3 s.le.yo 0 OM.out).mono ?_
        rintro x w3 ⟨A, n, c, rfl, hl, hr, hf, o3⟩
        have HL := hid hl; have HR := hid hr; have HF := hid hf; have OM := hid (OM.out.only o3 (by simp)); have HZ := hid QM.out.size; have QM := hid (QM.out.trans (o3.more (by simp)))
        clear hl hr hf o3
        clear k28
        go_wp2_with fail
        go_ret
        exact ⟨A, n, c, rfl, HL.out, HR.out, fun b off e => Nat.le_trans HZ.out (HF.out b off e), OM.out, QM.out⟩
    · have f4 : (s.st == 4) = false := by simp [h4]
      have HFI : Hid ((if lb ≤ now then (5 : Int) else s.st) = s.st) := hid (by split <;> omega)
      rw [HFI.out]
      clear h3 h4 hs
      go_enter Try.func22, Try.ntmps22
      go_wp2_with fail
      refine (rlater _ s.be z (by omega) HBE.out).mono ?_
      rintro x w2 ⟨rfl, rfl⟩
      rw [HLA.out]
      go_wp2_with fail
      refine (rlater _ now 60 (by omega) HNow.out).mono ?_
      rintro x w2 ⟨rfl, rfl⟩
      go_wp2_with (first | (refine wp_put rfl _ _ _ rfl m 8 rfl (.int .i64 (laterZ now 60)) rfl OM.out (by kernel_rfl) (Nat.le_trans (show _ ≤ 43 from Nat.le_of_ble_eq_true rfl) (mcs_size _ _)) (one_i _ _) (p_due OM.out (laterZ now 60)) ?_) | fail)
      intro W9 hb9 o9
      try simp only [Act.put, List.setIfInBounds_toArray, List.set_cons_zero, List.set_cons_succ]
      have OM := hid hb9; have QM := hid (QM.out.trans o9)
      clear hb9 o9
      clear k6 k8 k9 k38 k42 z1 f0 f1 f2 f3 f4 hst hge hd v1 v2 v3 v4 v5 v6 v7
      have k28 : W9.cell? ⟨m, 28, none⟩ = some (.int .u32 s.le.yo) := by have h9 := k_le_yo OM.out; exact h9
      go_wp2_with fail
      refine (sends1 _ m T tl _ 3 s.le.yo 0 OM.out).mono ?_
      rintro x w3 ⟨A, n, c, rfl, hl, hr, hf, o3⟩
      have HL := hid hl; have HR := hid hr; have HF := hid hf; have OM := hid (OM.out.only o3 (by simp)); have HZ := hid QM.out.size; have QM := hid (QM.out.trans (o3.more (by simp)))
      clear hl hr hf o3
      clear k28
      go_wp2_with fail
      go_ret
      exact ⟨A, n, c, rfl, HL.out, HR.out, fun b off e => Nat.le_trans HZ.out (HF.out b off e), OM.out, QM.out⟩
end Go.Proofs.Ytdpmjghdmpaehaa.lp
/-
  Chapter 23 (lease): both clients side by side; the law's comparing of rows; a script's steps as an argument. Conditions: none but those typed.
-/
namespace Go.Proofs.Ytdpmjghdmpaehaa.lp
set_option linter.unusedVariables false
set_option linter.unusedSimpArgs false
open Go.ChangeShapes Go.WideShapes Go.ChangeAt Go.RowKit Go.IntWalk Go.Lib
open Go.Deep
/-- What the document's Hear and Tick make of a client. -/
def Mc.dhear (s : Mc) (l : Lm) (now draw : Int) : Mc × List Lm := if l.op = 2 ∧ l.id = s.id ∧ macEq l s = true then (if s.st = 1 then s.offered l now draw else if s.st = 2 then s.dgranted l s.of.yo s.of.sv now draw else if s.st = 4 ∨ s.st = 5 then s.dgranted l s.le.yo s.le.sv now draw else (s, [])) else (s, [])
def Mc.dtick (s : Mc) (now draw : Int) : Mc × List Lm := if 3 ≤ s.st ∧ laterZ s.be (10 * s.le.ti) ≤ now then (s.dbegin now draw, [(s.dbegin now draw).sent 1 0 0]) else if now < s.due then (s, []) else if s.st = 0 then (s, []) else if s.st = 1 ∨ s.st = 2 then s.dagain now draw else s.renew now
theorem hearD (w : World) (m : Nat) (T : TypeId) (tl : List Value) (s : Mc) (l : Lm) (now draw : Int) (hO : Ob w m T (s.cs tl)) (hn : Tk now) (hst : 0 ≤ s.st ∧ s.st ≤ 5) :
    Calls Try.prog 20 #[.pointer (some ⟨m, 0, none⟩), .agg l.cs, .int .i64 now, .int .i64 draw] w (StepE m T tl (s.dhear l now draw).1 (s.dhear l now draw).2 w) := by
  by_cases hy : l.op = 2 ∧ l.id = s.id ∧ macEq l s = true
  · obtain ⟨h1, h2, h3⟩ := hy
    rcases st_cases hst with e | e | e | e | e | e
    · have hG : s.dhear l now draw = (s, []) := by unfold Mc.dhear; rw [if_pos ⟨h1, h2, h3⟩, e]; rfl
      rw [hG]
      exact hearD0 w m T tl s l now draw hO hn h1 h2 h3 (.inl e)
    · have hG : s.dhear l now draw = s.offered l now draw := by unfold Mc.dhear; rw [if_pos ⟨h1, h2, h3⟩, e]; rfl
      rw [hG]
      exact hearD1 w m T tl s l now draw hO hn h1 h2 h3 e
    · have hG : s.dhear l now draw = s.dgranted l s.of.yo s.of.sv now draw := by unfold Mc.dhear; rw [if_pos ⟨h1, h2, h3⟩, e]; rfl
      rw [hG]
      exact hearD2 w m T tl s l now draw hO hn h1 h2 h3 e
    · have hG : s.dhear l now draw = (s, []) := by unfold Mc.dhear; rw [if_pos ⟨h1, h2, h3⟩, e]; rfl
      rw [hG]
      exact hearD0 w m T tl s l now draw hO hn h1 h2 h3 (.inr e)
    · have hG : s.dhear l now draw = s.dgranted l s.le.yo s.le.sv now draw := by unfold Mc.dhear; rw [if_pos ⟨h1, h2, h3⟩, e]; rfl
      rw [hG]
      exact hearD4 w m T tl s l now draw hO hn h1 h2 h3 e
    · have hG : s.dhear l now draw = s.dgranted l s.le.yo s.le.sv now draw := by unfold Mc.dhear; rw [if_pos ⟨h1, h2, h3⟩, e]; rfl
      rw [hG]
      exact hearD5 w m T tl s l now draw hO hn h1 h2 h3 e
  · have hG : s.dhear l now draw = (s, []) := if_neg hy
    rw [hG]
    exact hearDNo w m T tl s l now draw hO hn hy
theorem tickD (w : World) (m : Nat) (T : TypeId) (tl : List Value) (s : Mc) (now draw : Int) (hO : Ob w m T (s.cs tl)) (hn : Tk now) (hok : Ok s) :
    Calls Try.prog 22 #[.pointer (some ⟨m, 0, none⟩), .int .i64 now, .int .i64 draw] w (StepE m T tl (s.dtick now draw).1 (s.dtick now draw).2 w) := by
  by_cases ho : 3 ≤ s.st ∧ laterZ s.be (10 * s.le.ti) ≤ now
  · have hG : s.dtick now draw = (s.dbegin now draw, [(s.dbegin now draw).sent 1 0 0]) := if_pos ho
    rw [hG]
    exact tickDB w m T tl s now draw hO hn hok.ti hok.be ho
  · by_cases hd : now < s.due
    · have hG : s.dtick now draw = (s, []) := by unfold Mc.dtick; rw [if_neg ho, if_pos hd]
      rw [hG]
      exact tickDN w m T tl s now draw hO hn hok.ti hok.be ho (.inr hd)
    · by_cases h0 : s.st = 0
      · have hG : s.dtick now draw = (s, []) := by unfold Mc.dtick; rw [if_neg ho, if_neg hd, if_pos h0]
        rw [hG]
        exact tickDN w m T tl s now draw hO hn hok.ti hok.be ho (.inl h0)
      · by_cases h12 : s.st = 1 ∨ s.st = 2
        · have hG : s.dtick now draw = s.dagain now draw := by unfold Mc.dtick; rw [if_neg ho, if_neg hd, if_neg h0, if_pos h12]
          rw [hG]
          exact tickDA w m T tl s now draw hO hn hok.ti hok.be ho hd h12 hok.tr
        · have hG : s.dtick now draw = s.renew now := by unfold Mc.dtick; rw [if_neg ho, if_neg hd, if_neg h0, if_neg h12]
          rw [hG]
          exact tickDR w m T tl s now draw hO hn hok.ti hok.be ho hd (by have := hok.st; omega)
/-- The document's client d stands beside the program's client s: they may differ in what was offered long ago. -/
def Rel (s d : Mc) : Prop := ∃ o, d = {s with of := o} ∧ (s.st = 2 → o = s.of)
theorem rel_begin {s d : Mc} (h : Rel s d) (now draw : Int) : Rel (s.begin now draw) (d.dbegin now draw) ∧ ∀ ty ak sv, (d.dbegin now draw).sent ty ak sv = (s.begin now draw).sent ty ak sv := by
  obtain ⟨o, rfl, h⟩ := h
  exact ⟨⟨o, rfl, fun e => absurd (show (1 : Int) = 2 from e) (by decide)⟩, fun _ _ _ => rfl⟩
def Rel2 (a b : Mc × List Lm) : Prop := Rel a.1 b.1 ∧ b.2 = a.2
theorem rel2_same {s d : Mc} (h : Rel s d) : Rel2 (s, []) (d, []) := ⟨h, rfl⟩
theorem rel2_begin {s d : Mc} (h : Rel s d) (now draw : Int) : Rel2 (s.begin now draw, [(s.begin now draw).sent 1 0 0]) (d.dbegin now draw, [(d.dbegin now draw).sent 1 0 0]) := by
  obtain ⟨h1, h2⟩ := rel_begin h now draw
  exact ⟨h1, by simp only [h2]⟩
theorem rel_start {s d : Mc} (h : Rel s d) (now draw : Int) : Rel2 (s.start now draw) (d.dstart now draw) := by
  have H := h
  obtain ⟨o, rfl, h⟩ := h
  unfold Mc.start Mc.dstart
  by_cases e : s.st = 0
  · rw [if_pos e, if_pos e]; exact rel2_begin H now draw
  · rw [if_neg e, if_neg e]; exact rel2_same H
theorem rel_free {s d : Mc} (h : Rel s d) : Rel2 s.free d.dfree := by
  obtain ⟨o, rfl, h⟩ := h
  exact ⟨⟨o, rfl, fun e => absurd (show (0 : Int) = 2 from e) (by decide)⟩, rfl⟩
theorem rel_granted {s d : Mc} (h : Rel s d) (l wl : Lm) (now draw : Int) : Rel2 (s.granted l wl now draw) (d.dgranted l wl.yo wl.sv now draw) := by
  have H := h
  obtain ⟨o, rfl, h⟩ := h
  unfold Mc.granted Mc.dgranted
  by_cases e : l.ty = 5 ∧ l.yo = wl.yo
  · rw [if_pos e, if_pos e]
    exact ⟨⟨o, rfl, fun e => absurd (show (3 : Int) = 2 from e) (by decide)⟩, rfl⟩
  · rw [if_neg e, if_neg e]
    by_cases e6 : l.ty = 6
    · rw [if_pos e6, if_pos e6]; exact rel2_begin H now draw
    · rw [if_neg e6, if_neg e6]; exact rel2_same H
theorem rel_offered {s d : Mc} (h : Rel s d) (l : Lm) (now draw : Int) : Rel2 (s.offered l now draw) (d.offered l now draw) := by
  have H := h
  obtain ⟨o, rfl, h⟩ := h
  unfold Mc.offered
  by_cases e : l.ty = 2 ∧ l.yo ≠ 0 ∧ l.sv ≠ 0
  · rw [if_pos e, if_pos e]
    exact ⟨⟨l, rfl, fun _ => rfl⟩, rfl⟩
  · rw [if_neg e, if_neg e]; exact rel2_same H
theorem rel_hear {s d : Mc} (h : Rel s d) (l : Lm) (now draw : Int) : Rel2 (s.hear l now draw) (d.dhear l now draw) := by
  have H := h
  obtain ⟨o, rfl, h⟩ := h
  unfold Mc.hear Mc.dhear
  by_cases e : l.op = 2 ∧ l.id = s.id ∧ macEq l s = true
  · rw [if_pos e, if_pos (show l.op = 2 ∧ l.id = s.id ∧ macEq l {s with of := o} = true from e)]
    by_cases e1 : s.st = 1
    · rw [if_pos e1, if_pos e1]; exact rel_offered H l now draw
    · rw [if_neg e1, if_neg e1]
      by_cases e2 : s.st = 2
      · rw [if_pos e2, if_pos e2]
        have := rel_granted H l s.of now draw
        rw [h e2] at this ⊢
        exact this
      · rw [if_neg e2, if_neg e2]
        by_cases e4 : s.st = 4 ∨ s.st = 5
        · rw [if_pos e4, if_pos e4]; exact rel_granted H l s.le now draw
        · rw [if_neg e4, if_neg e4]; exact rel2_same H
  · rw [if_neg e, if_neg (show ¬ (l.op = 2 ∧ l.id = s.id ∧ macEq l {s with of := o} = true) from e)]; exact rel2_same H
theorem rel_again {s d : Mc} (h : Rel s d) (hs : s.st = 1 ∨ s.st = 2) (now draw : Int) : Rel2 (s.again now draw) (d.dagain now draw) := by
  have H := h
  obtain ⟨o, rfl, h⟩ := h
  unfold Mc.again Mc.dagain
  by_cases e : 4 ≤ s.tr
  · rw [if_pos e, if_pos (show 4 ≤ s.tr from e)]; exact rel2_begin H now draw
  · rw [if_neg e, if_neg (show ¬ 4 ≤ s.tr from e)]
    refine ⟨⟨o, rfl, h⟩, ?_⟩
    rcases hs with e1 | e1
    · have a1 : s.asks = s.sent 1 0 0 := if_pos e1
      have a2 : ({s with of := o} : Mc).asks = s.sent 1 0 0 := if_pos e1
      show [_] = [_]
      rw [a1, a2]
    · rw [h e1]
theorem rel_renew {s d : Mc} (h : Rel s d) (hs : s.st ≠ 2) (now : Int) : Rel2 (s.renew now) (d.renew now) := by
  obtain ⟨o, rfl, h⟩ := h
  refine ⟨⟨o, rfl, fun e => ?_⟩, rfl⟩
  exfalso
  revert e
  unfold Mc.renew
  simp only
  split
  · decide
  · split
    · decide
    · exact hs
theorem rel_tick {s d : Mc} (h : Rel s d) (now draw : Int) : Rel2 (s.tick now draw) (d.dtick now draw) := by
  have H := h
  obtain ⟨o, rfl, h⟩ := h
  unfold Mc.tick Mc.dtick
  by_cases e : 3 ≤ s.st ∧ laterZ s.be (10 * s.le.ti) ≤ now
  · rw [if_pos e, if_pos (show 3 ≤ s.st ∧ laterZ s.be (10 * s.le.ti) ≤ now from e)]; exact rel2_begin H now draw
  · rw [if_neg e, if_neg (show ¬ (3 ≤ s.st ∧ laterZ s.be (10 * s.le.ti) ≤ now) from e)]
    by_cases e1 : now < s.due
    · rw [if_pos e1, if_pos (show now < s.due from e1)]; exact rel2_same H
    · rw [if_neg e1, if_neg (show ¬ now < s.due from e1)]
      by_cases e0 : s.st = 0
      · rw [if_pos e0, if_pos (show s.st = 0 from e0)]; exact rel2_same H
      · rw [if_neg e0, if_neg (show ¬ s.st = 0 from e0)]
        by_cases e2 : s.st = 1 ∨ s.st = 2
        · rw [if_pos e2, if_pos (show s.st = 1 ∨ s.st = 2 from e2)]; exact rel_again H e2 now draw
        · rw [if_neg e2, if_neg (show ¬ (s.st = 1 ∨ s.st = 2) from e2)]; exact rel_renew H (fun x => e2 (.inr x)) now
theorem Rel.ok {s d : Mc} (h : Rel s d) (k : Ok s) : Ok d := by
  obtain ⟨o, rfl, h⟩ := h
  exact ⟨k.st, k.tr, k.ti, k.be⟩
/-- The document's client in memory. -/
def DI (w : World) (g : Nat) (s : Mc) : Prop := ∃ d, Rel s d ∧ Ob w g 44 (d.cs [])
theorem DI.only {S : List Nat} {w w' : World} {g : Nat} {s : Mc} (h : DI w g s) (o : Only S w w') (hg : g ∉ S) : DI w' g s := by
  obtain ⟨d, h1, h2⟩ := h
  exact ⟨d, h1, h2.only o hg⟩
theorem DI.lt {w : World} {g : Nat} {s : Mc} (h : DI w g s) : g < w.heap.size := by
  obtain ⟨d, h1, h2⟩ := h
  exact h2.lt
theorem DI.id {w : World} {g : Nat} {s : Mc} (h : DI w g s) : w.cell? ⟨g, 7, none⟩ = some (.int .u32 s.id) := by
  obtain ⟨d, ⟨o, rfl, -⟩, h2⟩ := h
  have h3 := k_id h2
  exact h3
theorem DI.st {w : World} {g : Nat} {s : Mc} (h : DI w g s) : w.cell? ⟨g, 6, none⟩ = some (.int .i64 s.st) := by
  obtain ⟨d, ⟨o, rfl, -⟩, h2⟩ := h
  have h3 := k_st h2
  exact h3
def StepD (g : Nat) (s' : Mc) (L : List Lm) (w : World) (x : Ending) (w' : World) : Prop := ∃ A n c, x = .returned (.slice A n c) ∧ L.length = n ∧ RdS w' A n 16 (rws Lm.enc L) ∧ (∀ b off, A = some ⟨b, off, none⟩ → w.heap.size ≤ b) ∧ DI w' g s' ∧ Only [g] w w'
theorem step_rel {g : Nat} {a b : Mc × List Lm} {w : World} {x : Ending} {w' : World} (h : StepE g 44 [] b.1 b.2 w x w') (r : Rel2 a b) : StepD g a.1 a.2 w x w' := by
  obtain ⟨A, n, c, h1, h2, h3, h4, h5, h6⟩ := h
  obtain ⟨r1, r2⟩ := r
  rw [r2] at h2 h3
  exact ⟨A, n, c, h1, h2, h3, h4, ⟨_, r1, h5⟩, h6⟩
theorem docStart (w : World) (g : Nat) (s : Mc) (now draw : Int) (h : DI w g s) (hn : Tk now) :
    Calls Try.prog 18 #[.pointer (some ⟨g, 0, none⟩), .int .i64 now, .int .i64 draw] w (StepD g (s.start now draw).1 (s.start now draw).2 w) := by
  obtain ⟨d, r, hO⟩ := h
  exact (startD w g _ _ d now draw hO hn).mono fun x w' hx => step_rel hx (rel_start r now draw)
theorem docHear (w : World) (g : Nat) (s : Mc) (l : Lm) (now draw : Int) (h : DI w g s) (hn : Tk now) (hok : Ok s) :
    Calls Try.prog 20 #[.pointer (some ⟨g, 0, none⟩), .agg l.cs, .int .i64 now, .int .i64 draw] w (StepD g (s.hear l now draw).1 (s.hear l now draw).2 w) := by
  obtain ⟨d, r, hO⟩ := h
  exact (hearD w g _ _ d l now draw hO hn (r.ok hok).st).mono fun x w' hx => step_rel hx (rel_hear r l now draw)
theorem docTick (w : World) (g : Nat) (s : Mc) (now draw : Int) (h : DI w g s) (hn : Tk now) (hok : Ok s) :
    Calls Try.prog 22 #[.pointer (some ⟨g, 0, none⟩), .int .i64 now, .int .i64 draw] w (StepD g (s.tick now draw).1 (s.tick now draw).2 w) := by
  obtain ⟨d, r, hO⟩ := h
  exact (tickD w g _ _ d now draw hO hn (r.ok hok)).mono fun x w' hx => step_rel hx (rel_tick r now draw)
theorem docFree (w : World) (g : Nat) (s : Mc) (h : DI w g s) :
    Calls Try.prog 24 #[.pointer (some ⟨g, 0, none⟩)] w (StepD g s.free.1 s.free.2 w) := by
  obtain ⟨d, r, hO⟩ := h
  exact (releaseD w g _ _ d hO).mono fun x w' hx => step_rel hx (rel_free r)
theorem docHas (w : World) (g : Nat) (s : Mc) (h : DI w g s) :
    Calls Try.prog 26 #[.pointer (some ⟨g, 0, none⟩)] w (fun x w' => x = .returned (.tuple #[.agg s.had.cs, .bool (decide (3 ≤ s.st))]) ∧ Only [] w w') := by
  obtain ⟨d, ⟨o, rfl, -⟩, hO⟩ := h
  have h3 := hasD w g _ _ _ hO
  exact h3

set_option maxRecDepth 100000 in
theorem neLease (op id yo c0 c1 c2 c3 c4 c5 ty sv ak ti mk ro re : Int) (a1 a2 : Operand) (w : World) :
    (do eqGuard .neq 27 a1 a2 (.agg #[.int .i64 op, .int .u32 id, .int .u32 yo, .int .u8 c0, .int .u8 c1, .int .u8 c2, .int .u8 c3, .int .u8 c4, .int .u8 c5, .int .i64 ty, .int .u32 sv, .int .u32 ak, .int .i64 ti, .int .u32 mk, .int .u32 ro, .int .u32 re]) (.agg #[.int .i64 op, .int .u32 id, .int .u32 yo, .int .u8 c0, .int .u8 c1, .int .u8 c2, .int .u8 c3, .int .u8 c4, .int .u8 c5, .int .i64 ty, .int .u32 sv, .int .u32 ak, .int .i64 ti, .int .u32 mk, .int .u32 ro, .int .u32 re]); Go.binOp .neq 27 (.agg #[.int .i64 op, .int .u32 id, .int .u32 yo, .int .u8 c0, .int .u8 c1, .int .u8 c2, .int .u8 c3, .int .u8 c4, .int .u8 c5, .int .i64 ty, .int .u32 sv, .int .u32 ak, .int .i64 ti, .int .u32 mk, .int .u32 ro, .int .u32 re]) (.agg #[.int .i64 op, .int .u32 id, .int .u32 yo, .int .u8 c0, .int .u8 c1, .int .u8 c2, .int .u8 c3, .int .u8 c4, .int .u8 c5, .int .i64 ty, .int .u32 sv, .int .u32 ak, .int .i64 ti, .int .u32 mk, .int .u32 ro, .int .u32 re]) : Sem Value).run Try.prog w = .ok (.bool false) w := by
  have m := ev.eqMac 9997 c0 c1 c2 c3 c4 c5 w
  go_simp
theorem exec_ne {op : Oper} {ρ : Operand → Value} {w : World} (x y : Operand) (u : TypeId) (ho : op.op = .binOp .neq 27 x y u) (l : Lm) (hx : ρ x = .agg l.cs) (hy : ρ y = .agg l.cs) : (execOp ρ op).run Try.prog w = .ok (.value (.bool false)) w := by
  have h := neLease l.op l.id l.yo l.c0 l.c1 l.c2 l.c3 l.c4 l.c5 l.ty l.sv l.ak l.ti l.ma l.ro l.re x y w
  unfold execOp
  simp only [ho, hx, hy]
  rw [Sem.run_bind]
  show Result.andThen ((do eqGuard .neq 27 x y (.agg #[.int .i64 l.op, .int .u32 l.id, .int .u32 l.yo, .int .u8 l.c0, .int .u8 l.c1, .int .u8 l.c2, .int .u8 l.c3, .int .u8 l.c4, .int .u8 l.c5, .int .i64 l.ty, .int .u32 l.sv, .int .u32 l.ak, .int .i64 l.ti, .int .u32 l.ma, .int .u32 l.ro, .int .u32 l.re]) (.agg #[.int .i64 l.op, .int .u32 l.id, .int .u32 l.yo, .int .u8 l.c0, .int .u8 l.c1, .int .u8 l.c2, .int .u8 l.c3, .int .u8 l.c4, .int .u8 l.c5, .int .i64 l.ty, .int .u32 l.sv, .int .u32 l.ak, .int .i64 l.ti, .int .u32 l.ma, .int .u32 l.ro, .int .u32 l.re]); Go.binOp .neq 27 (.agg #[.int .i64 l.op, .int .u32 l.id, .int .u32 l.yo, .int .u8 l.c0, .int .u8 l.c1, .int .u8 l.c2, .int .u8 l.c3, .int .u8 l.c4, .int .u8 l.c5, .int .i64 l.ty, .int .u32 l.sv, .int .u32 l.ak, .int .i64 l.ti, .int .u32 l.ma, .int .u32 l.ro, .int .u32 l.re]) (.agg #[.int .i64 l.op, .int .u32 l.id, .int .u32 l.yo, .int .u8 l.c0, .int .u8 l.c1, .int .u8 l.c2, .int .u8 l.c3, .int .u8 l.c4, .int .u8 l.c5, .int .i64 l.ty, .int .u32 l.sv, .int .u32 l.ak, .int .i64 l.ti, .int .u32 l.ma, .int .u32 l.ro, .int .u32 l.re]) : Sem Value).run Try.prog w) _ = _
  rw [h]
  rfl
set_option maxRecDepth 100000 in
set_option maxHeartbeats 8000000 in
theorem rows1 (w : World) (A B : Option Addr) (n c1 c2 : Nat) (D : List Lm) (h1 : RdS w A n 16 (rws Lm.enc D)) (h2 : RdS w B n 16 (rws Lm.enc D)) (hn : D.length = n) (hb : n ≤ 100000) :
    Calls Try.prog 16 #[.slice A n c1, .slice B n c2] w fun x w' => x = .returned (.bool true) ∧ Only [] w w' := by
  have H1 := hid h1; have H2 := hid h2; have HN := hid hn
  clear h1 h2 hn
  go_enter Try.func16, Try.ntmps16
  go_wp2_with fail
  go_loopw [5] (fun i wr => ∃ k : Nat, k ≤ n ∧ i = .int .i64 k ∧ Hid (Only [] w wr)) (fun i _ => n - (RowKit.intOf i).toNat)
  case atStart => exact ⟨0, by omega, rfl, hid (Only.refl _ _)⟩
  case round =>
    obtain ⟨k, hk, rfl, HQ⟩ := hrel
    by_cases hlt : k < n
    · have hkl : k < D.length := by rw [HN.out]; exact hlt
      obtain ⟨b, off, rfl, hb1, hc1⟩ := (H1.out.only_nil HQ.out).elem HN.out enc_len (by omega) k hkl
      obtain ⟨b2, off2, rfl, hb2, hc2⟩ := (H2.out.only_nil HQ.out).elem HN.out enc_len (by omega) k hkl
      generalize D[k] = r at hc1 hc2
      have HC1 : Hid (wr.rangeAt b (off + k * 16) r.enc) := hid hc1
      have HC2 : Hid (wr.rangeAt b2 (off2 + k * 16) r.enc) := hid hc2
      clear hc1 hc2 hkl
      go_wp2_with fail
      refine wp_region_noPanic ?_
      refine rgn.regionT (R := Only []) (by kernel_rfl) (Only.refl []) (fun _ _ _ => Only.trans) (fun _ _ _ _ _ h => h) (.y 0 (.y 1 (.y 2 (.y 3 (.y 4 (.y 5 (.y 6 (.y 7 (.y 8 .z))))))))) (by kernel_rfl) (fun W hWd => ?_)
      have HWd := hid hWd; clear hWd
      have q8 : Only [] wr W := Only.eq_drew (Only.refl [] _) HWd.out
      have QW := hid q8; have QQ := hid (HQ.out.trans q8)
      clear q8 HWd
      refine rgn.Walk.ys (v := ?_) rfl rfl rfl ?_ ?_
      rotate_left 1
      · intro W' hW'
        go_simp
        try with_reducible rfl
      try simp only [Act.put, List.setIfInBounds_toArray, List.set_cons_zero, List.set_cons_succ]
      refine rgn.Walk.ys (v := ?_) rfl rfl rfl ?_ ?_
      rotate_left 1
      · intro W' hW'
        go_simp
        try with_reducible rfl
      try simp only [Act.put, List.setIfInBounds_toArray, List.set_cons_zero, List.set_cons_succ]
      refine rgn.Walk.ys (v := ?_) rfl rfl rfl ?_ ?_
      rotate_left 1
      · intro W' hW'
        go_simp
        try with_reducible rfl
      try simp only [Act.put, List.setIfInBounds_toArray, List.set_cons_zero, List.set_cons_succ]
      refine rgn.Walk.ys rfl rfl rfl (fun W' hW' => exec_lm _ _ rfl b (off + k * 16) rfl r (fun j v hv => (QW.out.trans hW').keep (HC1.out j v hv)) Try.underlying27 rfl (by kernel_rfl)) ?_
      try simp only [Act.put, List.setIfInBounds_toArray, List.set_cons_zero, List.set_cons_succ]
      refine rgn.Walk.ys (v := ?_) rfl rfl rfl ?_ ?_
      rotate_left 1
      · intro W' hW'
        go_simp
        try with_reducible rfl
      try simp only [Act.put, List.setIfInBounds_toArray, List.set_cons_zero, List.set_cons_succ]
      refine rgn.Walk.ys (v := ?_) rfl rfl rfl ?_ ?_
      rotate_left 1
      · intro W' hW'
        go_simp
        try with_reducible rfl
      try simp only [Act.put, List.setIfInBounds_toArray, List.set_cons_zero, List.set_cons_succ]
      refine rgn.Walk.ys (v := ?_) rfl rfl rfl ?_ ?_
      rotate_left 1
      · intro W' hW'
        go_simp
        try with_reducible rfl
      try simp only [Act.put, List.setIfInBounds_toArray, List.set_cons_zero, List.set_cons_succ]
      refine rgn.Walk.ys rfl rfl rfl (fun W' hW' => exec_lm _ _ rfl b2 (off2 + k * 16) rfl r (fun j v hv => (QW.out.trans hW').keep (HC2.out j v hv)) Try.underlying27 rfl (by kernel_rfl)) ?_
      try simp only [Act.put, List.setIfInBounds_toArray, List.set_cons_zero, List.set_cons_succ]
      refine rgn.Walk.ys rfl rfl rfl (fun W' hW' => exec_ne _ _ _ rfl r rfl rfl) ?_
      try simp only [Act.put, List.setIfInBounds_toArray, List.set_cons_zero, List.set_cons_succ]
      refine rgn.Walk.zs (NoPanic.normal ?_)
      go_wp2_with fail
      go_roundw
      case rel => exact ⟨k + 1, by omega, by first | rfl | go_num, QQ⟩
      case measure => simp [RowKit.intOf]; omega
    · go_wp2_with fail
      go_ret
      exact ⟨rfl, HQ.out⟩
/-- A script's step. -/
structure Sx where
  k : Int
  by_ : Int
  dr : Int
  m : Lm
  own : Bool
def Sx.enc (x : Sx) : List Value := [.int .i64 x.k, .int .i64 x.by_, .int .i64 x.dr] ++ (x.m.enc ++ [.bool x.own])
def Sx.cs (x : Sx) : Array Value := x.enc.toArray
theorem sx_one (x : Sx) : (Value.agg x.cs).cells.all (·.oneCell') = true := Array.all_eq_true_iff_forall_mem.2 (fun v hv => by
  have h : v ∈ x.enc := by simpa [Value.cells, Sx.cs] using hv
  unfold Sx.enc at h
  rcases List.mem_append.1 h with h | h
  · simp only [List.mem_cons, List.not_mem_nil, or_false] at h
    rcases h with rfl | rfl | rfl <;> rfl
  · rcases List.mem_append.1 h with h | h
    · exact enc_one _ v h
    · rw [List.mem_singleton.1 h]; rfl)
structure OplLs (w : World) (A : Option Addr) (len : Nat) (V : Nat → Sx) : Prop where
  cells : 0 < len → ∃ b off, A = some ⟨b, off, none⟩ ∧ b < w.heap.size ∧ ∀ i, i < len → w.rangeAt b (off + i * 20) (V i).enc
theorem OplLs.only_nil {w w' : World} {A : Option Addr} {len : Nat} {V : Nat → Sx} (h : OplLs w A len V) (o : Only [] w w') : OplLs w' A len V := ⟨fun h0 => by
  obtain ⟨b, off, e, hb, hc⟩ := h.cells h0
  exact ⟨b, off, e, Nat.lt_of_lt_of_le hb o.size, fun i hi j v hv => o.keep (hc i hi j v hv)⟩⟩
theorem OplLs_of {w : World} {bb : Nat} {A : Option Addr} {len cap : Nat} (h : CK.holds w (.slice [.int .i64, .int .i64, .int .i64, .int .i64, .int .u32, .int .u32, .int .u8, .int .u8, .int .u8, .int .u8, .int .u8, .int .u8, .int .i64, .int .u32, .int .u32, .int .i64, .int .u32, .int .u32, .int .u32, .bool] bb) (.slice A len cap)) : ∃ V, OplLs w A len V := by
  unfold CK.holds at h
  obtain ⟨A', len', cap', e, hl, hm, hb, hn, hi⟩ := h
  injection e with e1 e2 e3
  subst e1 e2 e3
  have each : ∀ i, ∃ x : Sx, i < cap → ∃ a, A = some a ∧ ∀ j, j < 20 → w.cell? (a.add (i * 20 + j)) = x.enc[j]? := by
    intro i
    by_cases hic : i < cap
    · obtain ⟨a, cs, ea, hcl, hc, hall⟩ := hi i hic
      obtain ⟨u0, r0, rfl, g0, hall⟩ := CK.all_cons hall
      obtain ⟨u1, r1, rfl, g1, hall⟩ := CK.all_cons hall
      obtain ⟨u2, r2, rfl, g2, hall⟩ := CK.all_cons hall
      obtain ⟨u3, r3, rfl, g3, hall⟩ := CK.all_cons hall
      obtain ⟨u4, r4, rfl, g4, hall⟩ := CK.all_cons hall
      obtain ⟨u5, r5, rfl, g5, hall⟩ := CK.all_cons hall
      obtain ⟨u6, r6, rfl, g6, hall⟩ := CK.all_cons hall
      obtain ⟨u7, r7, rfl, g7, hall⟩ := CK.all_cons hall
      obtain ⟨u8, r8, rfl, g8, hall⟩ := CK.all_cons hall
      obtain ⟨u9, r9, rfl, g9, hall⟩ := CK.all_cons hall
      obtain ⟨u10, r10, rfl, g10, hall⟩ := CK.all_cons hall
      obtain ⟨u11, r11, rfl, g11, hall⟩ := CK.all_cons hall
      obtain ⟨u12, r12, rfl, g12, hall⟩ := CK.all_cons hall
      obtain ⟨u13, r13, rfl, g13, hall⟩ := CK.all_cons hall
      obtain ⟨u14, r14, rfl, g14, hall⟩ := CK.all_cons hall
      obtain ⟨u15, r15, rfl, g15, hall⟩ := CK.all_cons hall
      obtain ⟨u16, r16, rfl, g16, hall⟩ := CK.all_cons hall
      obtain ⟨u17, r17, rfl, g17, hall⟩ := CK.all_cons hall
      obtain ⟨u18, r18, rfl, g18, hall⟩ := CK.all_cons hall
      obtain ⟨u19, r19, rfl, g19, hall⟩ := CK.all_cons hall
      obtain rfl := CK.all_nil hall
      obtain ⟨k0, rfl, hk0⟩ := CK.int_of g0
      obtain ⟨k1, rfl, hk1⟩ := CK.int_of g1
      obtain ⟨k2, rfl, hk2⟩ := CK.int_of g2
      obtain ⟨k3, rfl, hk3⟩ := CK.int_of g3
      obtain ⟨k4, rfl, hk4⟩ := CK.int_of g4
      obtain ⟨k5, rfl, hk5⟩ := CK.int_of g5
      obtain ⟨k6, rfl, hk6⟩ := CK.int_of g6
      obtain ⟨k7, rfl, hk7⟩ := CK.int_of g7
      obtain ⟨k8, rfl, hk8⟩ := CK.int_of g8
      obtain ⟨k9, rfl, hk9⟩ := CK.int_of g9
      obtain ⟨k10, rfl, hk10⟩ := CK.int_of g10
      obtain ⟨k11, rfl, hk11⟩ := CK.int_of g11
      obtain ⟨k12, rfl, hk12⟩ := CK.int_of g12
      obtain ⟨k13, rfl, hk13⟩ := CK.int_of g13
      obtain ⟨k14, rfl, hk14⟩ := CK.int_of g14
      obtain ⟨k15, rfl, hk15⟩ := CK.int_of g15
      obtain ⟨k16, rfl, hk16⟩ := CK.int_of g16
      obtain ⟨k17, rfl, hk17⟩ := CK.int_of g17
      obtain ⟨k18, rfl, hk18⟩ := CK.int_of g18
      obtain ⟨b19, rfl⟩ := CK.bool_of g19
      exact ⟨⟨k0, k1, k2, ⟨k3, k4, k5, k6, k7, k8, k9, k10, k11, k12, k13, k14, k15, k16, k17, k18⟩, b19⟩, fun _ => ⟨a, ea, hc⟩⟩
    · exact ⟨⟨0, 0, 0, Lm.zero, false⟩, fun h => absurd h hic⟩
  refine ⟨fun i => Classical.choose (each i), ⟨fun h0 => ?_⟩⟩
  have hV := fun i => Classical.choose_spec (each i)
  obtain ⟨a, ea, h1⟩ := hV 0 (by omega)
  have h10 := h1 0 (by omega)
  obtain ⟨b, off, spot⟩ := a
  have hsp : spot = none := by
    have := World.cell?_spot (h10.trans rfl)
    simpa [Addr.add] using this
  subst hsp
  rw [addr_plus] at h10
  refine ⟨b, off, ea, block_lt_of_cell (h10.trans rfl), fun i hi' j v hv => ?_⟩
  obtain ⟨a', ea', h2⟩ := hV i (by omega)
  rw [ea] at ea'
  injection ea' with ea'
  subst ea'
  have hj : j < 20 := (List.getElem?_eq_some_iff.1 hv).1
  have h3 := h2 j hj
  rw [addr_plus, ← Nat.add_assoc] at h3
  rw [h3, hv]
end Go.Proofs.Ytdpmjghdmpaehaa.lp
