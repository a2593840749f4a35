/-
  Chapter 23 (lease): the program's client: Tick, by a walk of its text; Hear and Tick whole. Conditions: none but those typed.
-/
import Derived.Test.YtdpmjghdmpaehaaLqA
namespace Go.Proofs.Ytdpmjghdmpaehaa.lp
set_option linter.unusedVariables false
set_option linter.unusedSimpArgs false
open Go.ChangeShapes Go.WideShapes Go.ChangeAt Go.RowKit Go.IntWalk Go.Lib
set_option maxRecDepth 100000 in
set_option maxHeartbeats 8000000 in
theorem tickB (w : World) (g m : Nat) (s : Mc) (now draw : Int) (h : CI w g m s) (hn : Tk now) (ht : 0 ≤ s.le.ti ∧ s.le.ti ≤ 2147483647) (hbe : Tk s.be) (hno : 3 ≤ s.st ∧ laterZ s.be (10 * s.le.ti) ≤ now) :
    Calls Try.prog 21 #[.pointer (some ⟨g, 0, none⟩), .int .i64 now, .int .i64 draw] w (StepE m 82 (hearV m ++ tickV m) (s.begin now draw) [(s.begin now draw).sent 1 0 0] w) := by
  have OC := hid h.cl; have OM := hid h.ob; have HNE := hid h.ne; have QM := hid (Only.refl [m] w)
  have HGM : Hid (g ∉ [m]) := hid (by simpa using h.ne)
  have HNow := hid hn; have HTI := hid ht; have HBE := hid hbe
  have HDU : Hid (0 ≤ 10 * s.le.ti ∧ 10 * s.le.ti ≤ 9223372036854775807) := hid (by omega)
  have c0 := OC.out.cell 0; have k8 := k_due OM.out
  clear h hn ht hbe
  obtain ⟨la, hla⟩ : ∃ la, laterZ s.be (10 * s.le.ti) = la := ⟨_, rfl⟩
  have HLA := hid hla
  simp only [hla] at hno
  clear hla
  have HS : Hid (decide (3 ≤ s.st) = true) := hid (by simpa using hno.1)
  have hge : la ≤ now := hno.2
  clear hno
  go_enter Try.func21, Try.ntmps21
  go_wp2_with fail
  refine (none1 _ g m OC.out).mono ?_
  rintro x w1 ⟨rfl, rfl⟩
  go_wp2_with fail
  refine wp_region_noPanic ?_
  refine rgn.regionT (R := Only []) (by kernel_rfl) (Only.refl []) (fun _ _ _ => Only.trans) (fun _ _ _ _ _ h => h) (.y 0 (.y 1 (.y 2 (.y 3 (.e 4 (.y 5 (.y 6 (.y 7 (.y 8 (.y 9 (.y 10 (.y 11 (.y 12 (.y 13 (.y 14 (.y 15 (.y 16 (.y 17 (.e 18 (.e 19 (.y 20 (.y 21 .z)))))))))))))))))))))) (by kernel_rfl) (fun W hWd => ?_)
  have HWd := hid hWd; clear hWd
  clear c0 k8
  have q8 : Only [] w W := Only.eq_drew (Only.refl [] _) HWd.out
  have OM := hid (OM.out.only q8 (by simp)); have OC := hid (OC.out.only q8 (by simp)); have QM := hid (QM.out.trans (q8.more (by simp)))
  clear q8 HWd
  have c0 := OC.out.cell 0; have k8 := k_due OM.out
  refine rgn.Walk.ys (v := ?_) rfl rfl rfl ?_ ?_
  rotate_left 1
  · intro W' hW'
    go_simp
    try with_reducible rfl
  try simp only [Act.put, List.setIfInBounds_toArray, List.set_cons_zero, List.set_cons_succ]
  refine rgn.Walk.ys (v := ?_) rfl rfl rfl ?_ ?_
  rotate_left 1
  · intro W' hW'
    go_simp
    try with_reducible rfl
  try simp only [Act.put, List.setIfInBounds_toArray, List.set_cons_zero, List.set_cons_succ]
  refine rgn.Walk.ys (v := ?_) rfl rfl rfl ?_ ?_
  rotate_left 1
  · intro W' hW'
    go_simp
    try with_reducible rfl
  try simp only [Act.put, List.setIfInBounds_toArray, List.set_cons_zero, List.set_cons_succ]
  refine rgn.Walk.ys (v := ?_) rfl rfl rfl ?_ ?_
  rotate_left 1
  · intro W' hW'
    have q0 := (OC.out.only hW' (by simp)).cell 0
    go_simp
    try with_reducible rfl
  try simp only [Act.put, List.setIfInBounds_toArray, List.set_cons_zero, List.set_cons_succ]
  refine rgn.Walk.es ?_
  refine rgn.stepE rfl rfl (fun K hK => ?_)
  go_simp
  refine (has1 _ m _ _ s _ OM.out HS.out).mono ?_
  rintro x w4 ⟨rfl, rfl⟩
  refine hK _ _ (Only.refl _ _) ?_
  clear hK K
  try simp only [Act.put, List.setIfInBounds_toArray, List.set_cons_zero, List.set_cons_succ]
  refine rgn.Walk.ys (v := ?_) rfl rfl rfl ?_ ?_
  rotate_left 1
  · intro W' hW'
    go_simp
    try with_reducible rfl
  try simp only [Act.put, List.setIfInBounds_toArray, List.set_cons_zero, List.set_cons_succ]
  refine rgn.Walk.ys (v := ?_) rfl rfl rfl ?_ ?_
  rotate_left 1
  · intro W' hW'
    go_simp
    try with_reducible rfl
  try simp only [Act.put, List.setIfInBounds_toArray, List.set_cons_zero, List.set_cons_succ]
  refine rgn.Walk.ys (v := ?_) rfl rfl rfl ?_ ?_
  rotate_left 1
  · intro W' hW'
    go_simp
    try with_reducible rfl
  try simp only [Act.put, List.setIfInBounds_toArray, List.set_cons_zero, List.set_cons_succ]
  refine rgn.Walk.ys (v := ?_) rfl rfl rfl ?_ ?_
  rotate_left 1
  · intro W' hW'
    go_simp
    try with_reducible rfl
  try simp only [Act.put, List.setIfInBounds_toArray, List.set_cons_zero, List.set_cons_succ]
  refine rgn.Walk.ys (v := ?_) rfl rfl rfl ?_ ?_
  rotate_left 1
  · intro W' hW'
    go_simp
    try with_reducible rfl
  try simp only [Act.put, List.setIfInBounds_toArray, List.set_cons_zero, List.set_cons_succ]
  refine rgn.Walk.ys (v := ?_) rfl rfl rfl ?_ ?_
  rotate_left 1
  · intro W' hW'
    have q0 := (OC.out.only hW' (by simp)).cell 0
    go_simp
    try with_reducible rfl
  try simp only [Act.put, List.setIfInBounds_toArray, List.set_cons_zero, List.set_cons_succ]
  refine rgn.Walk.ys (v := ?_) rfl rfl rfl ?_ ?_
  rotate_left 1
  · intro W' hW'
    go_simp
    try with_reducible rfl
  try simp only [Act.put, List.setIfInBounds_toArray, List.set_cons_zero, List.set_cons_succ]
  refine rgn.Walk.ys (v := ?_) rfl rfl rfl ?_ ?_
  rotate_left 1
  · intro W' hW'
    go_simp
    try with_reducible rfl
  try simp only [Act.put, List.setIfInBounds_toArray, List.set_cons_zero, List.set_cons_succ]
  refine rgn.Walk.ys (v := ?_) rfl rfl rfl ?_ ?_
  rotate_left 1
  · intro W' hW'
    have q0 := k_be (OM.out.only hW' (by simp))
    go_simp
    try with_reducible rfl
  try simp only [Act.put, List.setIfInBounds_toArray, List.set_cons_zero, List.set_cons_succ]
  refine rgn.Walk.ys (v := ?_) rfl rfl rfl ?_ ?_
  rotate_left 1
  · intro W' hW'
    go_simp
    try with_reducible rfl
  try simp only [Act.put, List.setIfInBounds_toArray, List.set_cons_zero, List.set_cons_succ]
  refine rgn.Walk.ys (v := ?_) rfl rfl rfl ?_ ?_
  rotate_left 1
  · intro W' hW'
    go_simp
    try with_reducible rfl
  try simp only [Act.put, List.setIfInBounds_toArray, List.set_cons_zero, List.set_cons_succ]
  refine rgn.Walk.ys (v := ?_) rfl rfl rfl ?_ ?_
  rotate_left 1
  · intro W' hW'
    go_simp
    try with_reducible rfl
  try simp only [Act.put, List.setIfInBounds_toArray, List.set_cons_zero, List.set_cons_succ]
  refine rgn.Walk.ys (v := ?_) rfl rfl rfl ?_ ?_
  rotate_left 1
  · intro W' hW'
    have q0 := (OC.out.only hW' (by simp)).cell 0
    go_simp
    try with_reducible rfl
  try simp only [Act.put, List.setIfInBounds_toArray, List.set_cons_zero, List.set_cons_succ]
  refine rgn.Walk.es ?_
  refine rgn.stepE rfl rfl (fun K hK => ?_)
  go_simp
  refine (dur1 _ m _ _ s OM.out HTI.out).mono ?_
  rintro x w5 ⟨rfl, rfl⟩
  refine hK _ _ (Only.refl _ _) ?_
  clear hK K
  try simp only [Act.put, List.setIfInBounds_toArray, List.set_cons_zero, List.set_cons_succ]
  refine rgn.Walk.es ?_
  refine rgn.stepE rfl rfl (fun K hK => ?_)
  go_simp
  refine (later1 _ s.be (10 * s.le.ti) HDU.out ⟨by have := HBE.out; unfold Tk at this; omega, HBE.out.2⟩).mono ?_
  rintro x w5 ⟨rfl, rfl⟩
  rw [HLA.out]
  refine hK _ _ (Only.refl _ _) ?_
  clear hK K
  try simp only [Act.put, List.setIfInBounds_toArray, List.set_cons_zero, List.set_cons_succ]
  refine rgn.Walk.ys (v := ?_) rfl rfl rfl ?_ ?_
  rotate_left 1
  · intro W' hW'
    go_simp
    try with_reducible rfl
  try simp only [Act.put, List.setIfInBounds_toArray, List.set_cons_zero, List.set_cons_succ]
  refine rgn.Walk.ys (v := ?_) rfl rfl rfl ?_ ?_
  rotate_left 1
  · intro W' hW'
    go_simp
    try with_reducible rfl
  try simp only [Act.put, List.setIfInBounds_toArray, List.set_cons_zero, List.set_cons_succ]
  refine rgn.Walk.zs (NoPanic.normal ?_)
  go_wp2_with fail
  refine (begin1 _ m _ _ s now draw OM.out HNow.out).mono ?_
  rintro x w3 ⟨A, n, c, rfl, hl, hr, hf, hO3, o3⟩
  have HL := hid hl; have HR := hid hr; have HFr := hid hf; have OM := hid hO3; have HZ := hid QM.out.size; have QM := hid (QM.out.trans o3)
  clear hl hr hf hO3 o3
  clear c0 k8 hge
  go_wp2_with fail
  go_ret
  exact ⟨A, n, c, rfl, HL.out, HR.out, fun b off e => Nat.le_trans HZ.out (HFr.out b off e), OM.out, QM.out⟩
set_option maxRecDepth 100000 in
set_option maxHeartbeats 8000000 in
theorem tickN (w : World) (g m : Nat) (s : Mc) (now draw : Int) (h : CI w g m s) (hn : Tk now) (ht : 0 ≤ s.le.ti ∧ s.le.ti ≤ 2147483647) (hbe : Tk s.be) (hno : ¬ (3 ≤ s.st ∧ laterZ s.be (10 * s.le.ti) ≤ now)) (hd : now < s.due) :
    Calls Try.prog 21 #[.pointer (some ⟨g, 0, none⟩), .int .i64 now, .int .i64 draw] w (StepE m 82 (hearV m ++ tickV m) s [] w) := by
  have OC := hid h.cl; have OM := hid h.ob; have HNE := hid h.ne; have QM := hid (Only.refl [m] w)
  have HGM : Hid (g ∉ [m]) := hid (by simpa using h.ne)
  have HNow := hid hn; have HTI := hid ht; have HBE := hid hbe
  have HDU : Hid (0 ≤ 10 * s.le.ti ∧ 10 * s.le.ti ≤ 9223372036854775807) := hid (by omega)
  have c0 := OC.out.cell 0; have k8 := k_due OM.out
  clear h hn ht hbe
  obtain ⟨la, hla⟩ : ∃ la, laterZ s.be (10 * s.le.ti) = la := ⟨_, rfl⟩
  have HLA := hid hla
  simp only [hla] at hno
  clear hla
  by_cases hst : 3 ≤ s.st
  · have HS : Hid (decide (3 ≤ s.st) = true) := hid (by simpa using hst)
    have hge : ¬ la ≤ now := fun e => hno ⟨hst, e⟩
    clear hno hst
    go_enter Try.func21, Try.ntmps21
    go_wp2_with fail
    refine (none1 _ g m OC.out).mono ?_
    rintro x w1 ⟨rfl, rfl⟩
    go_wp2_with fail
    refine wp_region_noPanic ?_
    refine rgn.regionT (R := Only []) (by kernel_rfl) (Only.refl []) (fun _ _ _ => Only.trans) (fun _ _ _ _ _ h => h) (.y 0 (.y 1 (.y 2 (.y 3 (.e 4 (.y 5 (.y 6 (.y 7 (.y 8 (.y 9 (.y 10 (.y 11 (.y 12 (.y 13 (.y 14 (.y 15 (.y 16 (.y 17 (.e 18 (.e 19 (.y 20 (.y 21 .z)))))))))))))))))))))) (by kernel_rfl) (fun W hWd => ?_)
    have HWd := hid hWd; clear hWd
    clear c0 k8
    have q8 : Only [] w W := Only.eq_drew (Only.refl [] _) HWd.out
    have OM := hid (OM.out.only q8 (by simp)); have OC := hid (OC.out.only q8 (by simp)); have QM := hid (QM.out.trans (q8.more (by simp)))
    clear q8 HWd
    have c0 := OC.out.cell 0; have k8 := k_due OM.out
    refine rgn.Walk.ys (v := ?_) rfl rfl rfl ?_ ?_
    rotate_left 1
    · intro W' hW'
      go_simp
      try with_reducible rfl
    try simp only [Act.put, List.setIfInBounds_toArray, List.set_cons_zero, List.set_cons_succ]
    refine rgn.Walk.ys (v := ?_) rfl rfl rfl ?_ ?_
    rotate_left 1
    · intro W' hW'
      go_simp
      try with_reducible rfl
    try simp only [Act.put, List.setIfInBounds_toArray, List.set_cons_zero, List.set_cons_succ]
    refine rgn.Walk.ys (v := ?_) rfl rfl rfl ?_ ?_
    rotate_left 1
    · intro W' hW'
      go_simp
      try with_reducible rfl
    try simp only [Act.put, List.setIfInBounds_toArray, List.set_cons_zero, List.set_cons_succ]
    refine rgn.Walk.ys (v := ?_) rfl rfl rfl ?_ ?_
    rotate_left 1
    · intro W' hW'
      have q0 := (OC.out.only hW' (by simp)).cell 0
      go_simp
      try with_reducible rfl
    try simp only [Act.put, List.setIfInBounds_toArray, List.set_cons_zero, List.set_cons_succ]
    refine rgn.Walk.es ?_
    refine rgn.stepE rfl rfl (fun K hK => ?_)
    go_simp
    refine (has1 _ m _ _ s _ OM.out HS.out).mono ?_
    rintro x w4 ⟨rfl, rfl⟩
    refine hK _ _ (Only.refl _ _) ?_
    clear hK K
    try simp only [Act.put, List.setIfInBounds_toArray, List.set_cons_zero, List.set_cons_succ]
    refine rgn.Walk.ys (v := ?_) rfl rfl rfl ?_ ?_
    rotate_left 1
    · intro W' hW'
      go_simp
      try with_reducible rfl
    try simp only [Act.put, List.setIfInBounds_toArray, List.set_cons_zero, List.set_cons_succ]
    refine rgn.Walk.ys (v := ?_) rfl rfl rfl ?_ ?_
    rotate_left 1
    · intro W' hW'
      go_simp
      try with_reducible rfl
    try simp only [Act.put, List.setIfInBounds_toArray, List.set_cons_zero, List.set_cons_succ]
    refine rgn.Walk.ys (v := ?_) rfl rfl rfl ?_ ?_
    rotate_left 1
    · intro W' hW'
      go_simp
      try with_reducible rfl
    try simp only [Act.put, List.setIfInBounds_toArray, List.set_cons_zero, List.set_cons_succ]
    refine rgn.Walk.ys (v := ?_) rfl rfl rfl ?_ ?_
    rotate_left 1
    · intro W' hW'
      go_simp
      try with_reducible rfl
    try simp only [Act.put, List.setIfInBounds_toArray, List.set_cons_zero, List.set_cons_succ]
    refine rgn.Walk.ys (v := ?_) rfl rfl rfl ?_ ?_
    rotate_left 1
    · intro W' hW'
      go_simp
      try with_reducible rfl
    try simp only [Act.put, List.setIfInBounds_toArray, List.set_cons_zero, List.set_cons_succ]
    refine rgn.Walk.ys (v := ?_) rfl rfl rfl ?_ ?_
    rotate_left 1
    · intro W' hW'
      have q0 := (OC.out.only hW' (by simp)).cell 0
      go_simp
      try with_reducible rfl
    try simp only [Act.put, List.setIfInBounds_toArray, List.set_cons_zero, List.set_cons_succ]
    refine rgn.Walk.ys (v := ?_) rfl rfl rfl ?_ ?_
    rotate_left 1
    · intro W' hW'
      go_simp
      try with_reducible rfl
    try simp only [Act.put, List.setIfInBounds_toArray, List.set_cons_zero, List.set_cons_succ]
    refine rgn.Walk.ys (v := ?_) rfl rfl rfl ?_ ?_
    rotate_left 1
    · intro W' hW'
      go_simp
      try with_reducible rfl
    try simp only [Act.put, List.setIfInBounds_toArray, List.set_cons_zero, List.set_cons_succ]
    refine rgn.Walk.ys (v := ?_) rfl rfl rfl ?_ ?_
    rotate_left 1
    · intro W' hW'
      have q0 := k_be (OM.out.only hW' (by simp))
      go_simp
      try with_reducible rfl
    try simp only [Act.put, List.setIfInBounds_toArray, List.set_cons_zero, List.set_cons_succ]
    refine rgn.Walk.ys (v := ?_) rfl rfl rfl ?_ ?_
    rotate_left 1
    · intro W' hW'
      go_simp
      try with_reducible rfl
    try simp only [Act.put, List.setIfInBounds_toArray, List.set_cons_zero, List.set_cons_succ]
    refine rgn.Walk.ys (v := ?_) rfl rfl rfl ?_ ?_
    rotate_left 1
    · intro W' hW'
      go_simp
      try with_reducible rfl
    try simp only [Act.put, List.setIfInBounds_toArray, List.set_cons_zero, List.set_cons_succ]
    refine rgn.Walk.ys (v := ?_) rfl rfl rfl ?_ ?_
    rotate_left 1
    · intro W' hW'
      go_simp
      try with_reducible rfl
    try simp only [Act.put, List.setIfInBounds_toArray, List.set_cons_zero, List.set_cons_succ]
    refine rgn.Walk.ys (v := ?_) rfl rfl rfl ?_ ?_
    rotate_left 1
    · intro W' hW'
      have q0 := (OC.out.only hW' (by simp)).cell 0
      go_simp
      try with_reducible rfl
    try simp only [Act.put, List.setIfInBounds_toArray, List.set_cons_zero, List.set_cons_succ]
    refine rgn.Walk.es ?_
    refine rgn.stepE rfl rfl (fun K hK => ?_)
    go_simp
    refine (dur1 _ m _ _ s OM.out HTI.out).mono ?_
    rintro x w5 ⟨rfl, rfl⟩
    refine hK _ _ (Only.refl _ _) ?_
    clear hK K
    try simp only [Act.put, List.setIfInBounds_toArray, List.set_cons_zero, List.set_cons_succ]
    refine rgn.Walk.es ?_
    refine rgn.stepE rfl rfl (fun K hK => ?_)
    go_simp
    refine (later1 _ s.be (10 * s.le.ti) HDU.out ⟨by have := HBE.out; unfold Tk at this; omega, HBE.out.2⟩).mono ?_
    rintro x w5 ⟨rfl, rfl⟩
    rw [HLA.out]
    refine hK _ _ (Only.refl _ _) ?_
    clear hK K
    try simp only [Act.put, List.setIfInBounds_toArray, List.set_cons_zero, List.set_cons_succ]
    refine rgn.Walk.ys (v := ?_) rfl rfl rfl ?_ ?_
    rotate_left 1
    · intro W' hW'
      go_simp
      try with_reducible rfl
    try simp only [Act.put, List.setIfInBounds_toArray, List.set_cons_zero, List.set_cons_succ]
    refine rgn.Walk.ys (v := ?_) rfl rfl rfl ?_ ?_
    rotate_left 1
    · intro W' hW'
      go_simp
      try with_reducible rfl
    try simp only [Act.put, List.setIfInBounds_toArray, List.set_cons_zero, List.set_cons_succ]
    refine rgn.Walk.zs (NoPanic.normal ?_)
    go_wp2_with fail
    go_ret
    exact step_none OM.out QM.out
  · have HS : Hid (decide (3 ≤ s.st) = false) := hid (by simpa using hst)
    clear hno hst
    go_enter Try.func21, Try.ntmps21
    go_wp2_with fail
    refine (none1 _ g m OC.out).mono ?_
    rintro x w1 ⟨rfl, rfl⟩
    go_wp2_with fail
    refine wp_region_noPanic ?_
    refine rgn.regionT (R := Only []) (by kernel_rfl) (Only.refl []) (fun _ _ _ => Only.trans) (fun _ _ _ _ _ h => h) (.y 0 (.y 1 (.y 2 (.y 3 (.e 4 (.y 5 (.y 6 (.y 7 (.y 8 (.y 9 (.y 10 (.y 11 (.y 12 (.y 13 (.y 14 (.y 15 (.y 16 (.y 17 (.e 18 (.e 19 (.y 20 (.y 21 .z)))))))))))))))))))))) (by kernel_rfl) (fun W hWd => ?_)
    have HWd := hid hWd; clear hWd
    clear c0 k8
    have q8 : Only [] w W := Only.eq_drew (Only.refl [] _) HWd.out
    have OM := hid (OM.out.only q8 (by simp)); have OC := hid (OC.out.only q8 (by simp)); have QM := hid (QM.out.trans (q8.more (by simp)))
    clear q8 HWd
    have c0 := OC.out.cell 0; have k8 := k_due OM.out
    refine rgn.Walk.ys (v := ?_) rfl rfl rfl ?_ ?_
    rotate_left 1
    · intro W' hW'
      go_simp
      try with_reducible rfl
    try simp only [Act.put, List.setIfInBounds_toArray, List.set_cons_zero, List.set_cons_succ]
    refine rgn.Walk.ys (v := ?_) rfl rfl rfl ?_ ?_
    rotate_left 1
    · intro W' hW'
      go_simp
      try with_reducible rfl
    try simp only [Act.put, List.setIfInBounds_toArray, List.set_cons_zero, List.set_cons_succ]
    refine rgn.Walk.ys (v := ?_) rfl rfl rfl ?_ ?_
    rotate_left 1
    · intro W' hW'
      go_simp
      try with_reducible rfl
    try simp only [Act.put, List.setIfInBounds_toArray, List.set_cons_zero, List.set_cons_succ]
    refine rgn.Walk.ys (v := ?_) rfl rfl rfl ?_ ?_
    rotate_left 1
    · intro W' hW'
      have q0 := (OC.out.only hW' (by simp)).cell 0
      go_simp
      try with_reducible rfl
    try simp only [Act.put, List.setIfInBounds_toArray, List.set_cons_zero, List.set_cons_succ]
    refine rgn.Walk.es ?_
    refine rgn.stepE rfl rfl (fun K hK => ?_)
    go_simp
    refine (has1 _ m _ _ s _ OM.out HS.out).mono ?_
    rintro x w4 ⟨rfl, rfl⟩
    refine hK _ _ (Only.refl _ _) ?_
    clear hK K
    try simp only [Act.put, List.setIfInBounds_toArray, List.set_cons_zero, List.set_cons_succ]
    refine rgn.Walk.ys (v := ?_) rfl rfl rfl ?_ ?_
    rotate_left 1
    · intro W' hW'
      go_simp
      try with_reducible rfl
    try simp only [Act.put, List.setIfInBounds_toArray, List.set_cons_zero, List.set_cons_succ]
    refine rgn.Walk.yn rfl rfl rfl ?_
    try simp only [Act.put, List.setIfInBounds_toArray, List.set_cons_zero, List.set_cons_succ]
    refine rgn.Walk.yn rfl rfl rfl ?_
    try simp only [Act.put, List.setIfInBounds_toArray, List.set_cons_zero, List.set_cons_succ]
    refine rgn.Walk.yn rfl rfl rfl ?_
    try simp only [Act.put, List.setIfInBounds_toArray, List.set_cons_zero, List.set_cons_succ]
    refine rgn.Walk.yn rfl rfl rfl ?_
    try simp only [Act.put, List.setIfInBounds_toArray, List.set_cons_zero, List.set_cons_succ]
    refine rgn.Walk.yn rfl rfl rfl ?_
    try simp only [Act.put, List.setIfInBounds_toArray, List.set_cons_zero, List.set_cons_succ]
    refine rgn.Walk.yn rfl rfl rfl ?_
    try simp only [Act.put, List.setIfInBounds_toArray, List.set_cons_zero, List.set_cons_succ]
    refine rgn.Walk.yn rfl rfl rfl ?_
    try simp only [Act.put, List.setIfInBounds_toArray, List.set_cons_zero, List.set_cons_succ]
    refine rgn.Walk.yn rfl rfl rfl ?_
    try simp only [Act.put, List.setIfInBounds_toArray, List.set_cons_zero, List.set_cons_succ]
    refine rgn.Walk.yn rfl rfl rfl ?_
    try simp only [Act.put, List.setIfInBounds_toArray, List.set_cons_zero, List.set_cons_succ]
    refine rgn.Walk.yn rfl rfl rfl ?_
    try simp only [Act.put, List.setIfInBounds_toArray, List.set_cons_zero, List.set_cons_succ]
    refine rgn.Walk.yn rfl rfl rfl ?_
    try simp only [Act.put, List.setIfInBounds_toArray, List.set_cons_zero, List.set_cons_succ]
    refine rgn.Walk.yn rfl rfl rfl ?_
    try simp only [Act.put, List.setIfInBounds_toArray, List.set_cons_zero, List.set_cons_succ]
    refine rgn.Walk.es (rgn.stepN (Only.refl []) rfl rfl rfl ?_)
    try simp only [Act.put, List.setIfInBounds_toArray, List.set_cons_zero, List.set_cons_succ]
    refine rgn.Walk.es (rgn.stepN (Only.refl []) rfl rfl rfl ?_)
    try simp only [Act.put, List.setIfInBounds_toArray, List.set_cons_zero, List.set_cons_succ]
    refine rgn.Walk.yn rfl rfl rfl ?_
    try simp only [Act.put, List.setIfInBounds_toArray, List.set_cons_zero, List.set_cons_succ]
    refine rgn.Walk.ys (v := ?_) rfl rfl rfl ?_ ?_
    rotate_left 1
    · intro W' hW'
      go_simp
      try with_reducible rfl
    try simp only [Act.put, List.setIfInBounds_toArray, List.set_cons_zero, List.set_cons_succ]
    refine rgn.Walk.zs (NoPanic.normal ?_)
    go_wp2_with fail
    go_ret
    exact step_none OM.out QM.out
set_option maxRecDepth 100000 in
set_option maxHeartbeats 8000000 in
theorem tickT (w : World) (g m : Nat) (s : Mc) (s' : Mc) (L : List Lm) (k F : Nat) (now draw : Int) (h : CI w g m s) (hn : Tk now) (ht : 0 ≤ s.le.ti ∧ s.le.ti ≤ 2147483647) (hbe : Tk s.be) (hno : ¬ (3 ≤ s.st ∧ laterZ s.be (10 * s.le.ti) ≤ now)) (hd : ¬ now < s.due) (hk : s.st = (k : Int)) (hk6 : k < 6) (hF : (tickV m)[k]? = some (.func (Fn.func F) #[.pointer (some ⟨m, 0, none⟩)] #[])) (hE : ∀ args W, (callFunc F args).run Try.prog W = .ok (.enter F args) W) (hC : ∀ W, Ob W m 82 (s.cs (hearV m ++ tickV m)) → Calls Try.prog F #[.pointer (some ⟨m, 0, none⟩), .int .i64 now, .int .i64 draw] W (StepE m 82 (hearV m ++ tickV m) s' L W)) :
    Calls Try.prog 21 #[.pointer (some ⟨g, 0, none⟩), .int .i64 now, .int .i64 draw] w (StepE m 82 (hearV m ++ tickV m) s' L w) := by
  have OC := hid h.cl; have OM := hid h.ob; have HNE := hid h.ne; have QM := hid (Only.refl [m] w)
  have HGM : Hid (g ∉ [m]) := hid (by simpa using h.ne)
  have HNow := hid hn; have HTI := hid ht; have HBE := hid hbe
  have HDU : Hid (0 ≤ 10 * s.le.ti ∧ 10 * s.le.ti ≤ 9223372036854775807) := hid (by omega)
  have c0 := OC.out.cell 0; have k8 := k_due OM.out
  clear h hn ht hbe
  obtain ⟨la, hla⟩ : ∃ la, laterZ s.be (10 * s.le.ti) = la := ⟨_, rfl⟩
  have HLA := hid hla
  simp only [hla] at hno
  clear hla
  have HK := hid hk; have HK6 := hid hk6; have HF := hid hF; have HC := hid hC; have HE := hid hE
  clear hk hF hC hE
  by_cases hst : 3 ≤ s.st
  · have HS : Hid (decide (3 ≤ s.st) = true) := hid (by simpa using hst)
    have hge : ¬ la ≤ now := fun e => hno ⟨hst, e⟩
    clear hno hst
    go_enter Try.func21, Try.ntmps21
    go_wp2_with fail
    refine (none1 _ g m OC.out).mono ?_
    rintro x w1 ⟨rfl, rfl⟩
    go_wp2_with fail
    refine wp_region_noPanic ?_
    refine rgn.regionT (R := Only []) (by kernel_rfl) (Only.refl []) (fun _ _ _ => Only.trans) (fun _ _ _ _ _ h => h) (.y 0 (.y 1 (.y 2 (.y 3 (.e 4 (.y 5 (.y 6 (.y 7 (.y 8 (.y 9 (.y 10 (.y 11 (.y 12 (.y 13 (.y 14 (.y 15 (.y 16 (.y 17 (.e 18 (.e 19 (.y 20 (.y 21 .z)))))))))))))))))))))) (by kernel_rfl) (fun W hWd => ?_)
    have HWd := hid hWd; clear hWd
    clear c0 k8
    have q8 : Only [] w W := Only.eq_drew (Only.refl [] _) HWd.out
    have OM := hid (OM.out.only q8 (by simp)); have OC := hid (OC.out.only q8 (by simp)); have QM := hid (QM.out.trans (q8.more (by simp)))
    clear q8 HWd
    have c0 := OC.out.cell 0; have k8 := k_due OM.out
    refine rgn.Walk.ys (v := ?_) rfl rfl rfl ?_ ?_
    rotate_left 1
    · intro W' hW'
      go_simp
      try with_reducible rfl
    try simp only [Act.put, List.setIfInBounds_toArray, List.set_cons_zero, List.set_cons_succ]
    refine rgn.Walk.ys (v := ?_) rfl rfl rfl ?_ ?_
    rotate_left 1
    · intro W' hW'
      go_simp
      try with_reducible rfl
    try simp only [Act.put, List.setIfInBounds_toArray, List.set_cons_zero, List.set_cons_succ]
    refine rgn.Walk.ys (v := ?_) rfl rfl rfl ?_ ?_
    rotate_left 1
    · intro W' hW'
      go_simp
      try with_reducible rfl
    try simp only [Act.put, List.setIfInBounds_toArray, List.set_cons_zero, List.set_cons_succ]
    refine rgn.Walk.ys (v := ?_) rfl rfl rfl ?_ ?_
    rotate_left 1
    · intro W' hW'
      have q0 := (OC.out.only hW' (by simp)).cell 0
      go_simp
      try with_reducible rfl
    try simp only [Act.put, List.setIfInBounds_toArray, List.set_cons_zero, List.set_cons_succ]
    refine rgn.Walk.es ?_
    refine rgn.stepE rfl rfl (fun K hK => ?_)
    go_simp
    refine (has1 _ m _ _ s _ OM.out HS.out).mono ?_
    rintro x w4 ⟨rfl, rfl⟩
    refine hK _ _ (Only.refl _ _) ?_
    clear hK K
    try simp only [Act.put, List.setIfInBounds_toArray, List.set_cons_zero, List.set_cons_succ]
    refine rgn.Walk.ys (v := ?_) rfl rfl rfl ?_ ?_
    rotate_left 1
    · intro W' hW'
      go_simp
      try with_reducible rfl
    try simp only [Act.put, List.setIfInBounds_toArray, List.set_cons_zero, List.set_cons_succ]
    refine rgn.Walk.ys (v := ?_) rfl rfl rfl ?_ ?_
    rotate_left 1
    · intro W' hW'
      go_simp
      try with_reducible rfl
    try simp only [Act.put, List.setIfInBounds_toArray, List.set_cons_zero, List.set_cons_succ]
    refine rgn.Walk.ys (v := ?_) rfl rfl rfl ?_ ?_
    rotate_left 1
    · intro W' hW'
      go_simp
      try with_reducible rfl
    try simp only [Act.put, List.setIfInBounds_toArray, List.set_cons_zero, List.set_cons_succ]
    refine rgn.Walk.ys (v := ?_) rfl rfl rfl ?_ ?_
    rotate_left 1
    · intro W' hW'
      go_simp
      try with_reducible rfl
    try simp only [Act.put, List.setIfInBounds_toArray, List.set_cons_zero, List.set_cons_succ]
    refine rgn.Walk.ys (v := ?_) rfl rfl rfl ?_ ?_
    rotate_left 1
    · intro W' hW'
      go_simp
      try with_reducible rfl
    try simp only [Act.put, List.setIfInBounds_toArray, List.set_cons_zero, List.set_cons_succ]
    refine rgn.Walk.ys (v := ?_) rfl rfl rfl ?_ ?_
    rotate_left 1
    · intro W' hW'
      have q0 := (OC.out.only hW' (by simp)).cell 0
      go_simp
      try with_reducible rfl
    try simp only [Act.put, List.setIfInBounds_toArray, List.set_cons_zero, List.set_cons_succ]
    refine rgn.Walk.ys (v := ?_) rfl rfl rfl ?_ ?_
    rotate_left 1
    · intro W' hW'
      go_simp
      try with_reducible rfl
    try simp only [Act.put, List.setIfInBounds_toArray, List.set_cons_zero, List.set_cons_succ]
    refine rgn.Walk.ys (v := ?_) rfl rfl rfl ?_ ?_
    rotate_left 1
    · intro W' hW'
      go_simp
      try with_reducible rfl
    try simp only [Act.put, List.setIfInBounds_toArray, List.set_cons_zero, List.set_cons_succ]
    refine rgn.Walk.ys (v := ?_) rfl rfl rfl ?_ ?_
    rotate_left 1
    · intro W' hW'
      have q0 := k_be (OM.out.only hW' (by simp))
      go_simp
      try with_reducible rfl
    try simp only [Act.put, List.setIfInBounds_toArray, List.set_cons_zero, List.set_cons_succ]
    refine rgn.Walk.ys (v := ?_) rfl rfl rfl ?_ ?_
    rotate_left 1
    · intro W' hW'
      go_simp
      try with_reducible rfl
    try simp only [Act.put, List.setIfInBounds_toArray, List.set_cons_zero, List.set_cons_succ]
    refine rgn.Walk.ys (v := ?_) rfl rfl rfl ?_ ?_
    rotate_left 1
    · intro W' hW'
      go_simp
      try with_reducible rfl
    try simp only [Act.put, List.setIfInBounds_toArray, List.set_cons_zero, List.set_cons_succ]
    refine rgn.Walk.ys (v := ?_) rfl rfl rfl ?_ ?_
    rotate_left 1
    · intro W' hW'
      go_simp
      try with_reducible rfl
    try simp only [Act.put, List.setIfInBounds_toArray, List.set_cons_zero, List.set_cons_succ]
    refine rgn.Walk.ys (v := ?_) rfl rfl rfl ?_ ?_
    rotate_left 1
    · intro W' hW'
      have q0 := (OC.out.only hW' (by simp)).cell 0
      go_simp
      try with_reducible rfl
    try simp only [Act.put, List.setIfInBounds_toArray, List.set_cons_zero, List.set_cons_succ]
    refine rgn.Walk.es ?_
    refine rgn.stepE rfl rfl (fun K hK => ?_)
    go_simp
    refine (dur1 _ m _ _ s OM.out HTI.out).mono ?_
    rintro x w5 ⟨rfl, rfl⟩
    refine hK _ _ (Only.refl _ _) ?_
    clear hK K
    try simp only [Act.put, List.setIfInBounds_toArray, List.set_cons_zero, List.set_cons_succ]
    refine rgn.Walk.es ?_
    refine rgn.stepE rfl rfl (fun K hK => ?_)
    go_simp
    refine (later1 _ s.be (10 * s.le.ti) HDU.out ⟨by have := HBE.out; unfold Tk at this; omega, HBE.out.2⟩).mono ?_
    rintro x w5 ⟨rfl, rfl⟩
    rw [HLA.out]
    refine hK _ _ (Only.refl _ _) ?_
    clear hK K
    try simp only [Act.put, List.setIfInBounds_toArray, List.set_cons_zero, List.set_cons_succ]
    refine rgn.Walk.ys (v := ?_) rfl rfl rfl ?_ ?_
    rotate_left 1
    · intro W' hW'
      go_simp
      try with_reducible rfl
    try simp only [Act.put, List.setIfInBounds_toArray, List.set_cons_zero, List.set_cons_succ]
    refine rgn.Walk.ys (v := ?_) rfl rfl rfl ?_ ?_
    rotate_left 1
    · intro W' hW'
      go_simp
      try with_reducible rfl
    try simp only [Act.put, List.setIfInBounds_toArray, List.set_cons_zero, List.set_cons_succ]
    refine rgn.Walk.zs (NoPanic.normal ?_)
    go_wp2_with fail
    clear c0 k8 hd
    have k60 : (k : Int) < 6 := by omega
    refine wp_region_noPanic ?_
    refine rgn.regionT (R := Only [m]) (by kernel_rfl) (Only.refl [m]) (fun _ _ _ => Only.trans) (fun _ _ _ _ _ h => h) (.y 0 (.y 1 (.y 2 (.y 3 (.y 4 (.y 5 (.y 6 (.y 7 (.y 8 (.y 9 (.y 11 (.y 12 (.y 15 (.y 16 (.e 10 (.y 13 (.e 14 (.e 17 (.e 18 .z))))))))))))))))))) (by kernel_rfl) (fun WZ hWd => ?_)
    have HWd := hid hWd; clear hWd
    have q8 : Only [] W WZ := Only.eq_drew (Only.refl [] _) HWd.out
    have OM := hid (OM.out.only q8 (by simp)); have OC := hid (OC.out.only q8 (by simp)); have QM := hid (QM.out.trans (q8.more (by simp)))
    clear q8 HWd
    refine rgn.Walk.ys (v := ?_) rfl rfl rfl ?_ ?_
    rotate_left 1
    · intro W' hW'
      go_simp
      try with_reducible rfl
    try simp only [Act.put, List.setIfInBounds_toArray, List.set_cons_zero, List.set_cons_succ]
    refine rgn.Walk.ys (v := ?_) rfl rfl rfl ?_ ?_
    rotate_left 1
    · intro W' hW'
      go_simp
      try with_reducible rfl
    try simp only [Act.put, List.setIfInBounds_toArray, List.set_cons_zero, List.set_cons_succ]
    refine rgn.Walk.ys (v := ?_) rfl rfl rfl ?_ ?_
    rotate_left 1
    · intro W' hW'
      go_simp
      try with_reducible rfl
    try simp only [Act.put, List.setIfInBounds_toArray, List.set_cons_zero, List.set_cons_succ]
    refine rgn.Walk.ys (v := ?_) rfl rfl rfl ?_ ?_
    rotate_left 1
    · intro W' hW'
      have q0 := (OC.out.only hW' HGM.out).cell 0
      go_simp
      try with_reducible rfl
    try simp only [Act.put, List.setIfInBounds_toArray, List.set_cons_zero, List.set_cons_succ]
    refine rgn.Walk.ys (v := ?_) rfl rfl rfl ?_ ?_
    rotate_left 1
    · intro W' hW'
      go_simp
      try with_reducible rfl
    try simp only [Act.put, List.setIfInBounds_toArray, List.set_cons_zero, List.set_cons_succ]
    refine rgn.Walk.ys (v := ?_) rfl rfl rfl ?_ ?_
    rotate_left 1
    · intro W' hW'
      go_simp
      try with_reducible rfl
    try simp only [Act.put, List.setIfInBounds_toArray, List.set_cons_zero, List.set_cons_succ]
    refine rgn.Walk.ys (v := ?_) rfl rfl rfl ?_ ?_
    rotate_left 1
    · intro W' hW'
      go_simp
      try with_reducible rfl
    try simp only [Act.put, List.setIfInBounds_toArray, List.set_cons_zero, List.set_cons_succ]
    refine rgn.Walk.ys (v := ?_) rfl rfl rfl ?_ ?_
    rotate_left 1
    · intro W' hW'
      have q0 := (OC.out.only hW' HGM.out).cell 0
      go_simp
      try with_reducible rfl
    try simp only [Act.put, List.setIfInBounds_toArray, List.set_cons_zero, List.set_cons_succ]
    refine rgn.Walk.ys (v := ?_) rfl rfl rfl ?_ ?_
    rotate_left 1
    · intro W' hW'
      go_simp
      try with_reducible rfl
    try simp only [Act.put, List.setIfInBounds_toArray, List.set_cons_zero, List.set_cons_succ]
    refine rgn.Walk.ys (v := ?_) rfl rfl rfl ?_ ?_
    rotate_left 1
    · intro W' hW'
      go_simp
      try with_reducible rfl
    try simp only [Act.put, List.setIfInBounds_toArray, List.set_cons_zero, List.set_cons_succ]
    refine rgn.Walk.ys (v := ?_) rfl rfl rfl ?_ ?_
    rotate_left 1
    · intro W' hW'
      go_simp
      try with_reducible rfl
    try simp only [Act.put, List.setIfInBounds_toArray, List.set_cons_zero, List.set_cons_succ]
    refine rgn.Walk.ys (v := ?_) rfl rfl rfl ?_ ?_
    rotate_left 1
    · intro W' hW'
      go_simp
      try with_reducible rfl
    try simp only [Act.put, List.setIfInBounds_toArray, List.set_cons_zero, List.set_cons_succ]
    refine rgn.Walk.ys (v := ?_) rfl rfl rfl ?_ ?_
    rotate_left 1
    · intro W' hW'
      go_simp
      try with_reducible rfl
    try simp only [Act.put, List.setIfInBounds_toArray, List.set_cons_zero, List.set_cons_succ]
    refine rgn.Walk.ys (v := ?_) rfl rfl rfl ?_ ?_
    rotate_left 1
    · intro W' hW'
      go_simp
      try with_reducible rfl
    try simp only [Act.put, List.setIfInBounds_toArray, List.set_cons_zero, List.set_cons_succ]
    refine rgn.Walk.es ?_
    refine rgn.stepE rfl rfl (fun K hK => ?_)
    have qq := k_st OM.out
    rw [HK.out] at qq
    go_simp
    refine hK _ _ (Only.refl _ _) ?_
    clear hK K qq
    try simp only [Act.put, List.setIfInBounds_toArray, List.set_cons_zero, List.set_cons_succ]
    refine rgn.Walk.ys (v := ?_) rfl rfl rfl ?_ ?_
    rotate_left 1
    · intro W' hW'
      go_simp
      try with_reducible rfl
    try simp only [Act.put, List.setIfInBounds_toArray, List.set_cons_zero, List.set_cons_succ]
    refine rgn.Walk.es ?_
    refine rgn.stepE rfl rfl (fun K hK => ?_)
    have qq := (k_t OM.out HK6.out).trans HF.out
    go_simp
    refine hK _ _ (Only.refl _ _) ?_
    clear hK K qq
    try simp only [Act.put, List.setIfInBounds_toArray, List.set_cons_zero, List.set_cons_succ]
    refine rgn.Walk.es ?_
    refine rgn.stepE rfl rfl (fun K hK => ?_)
    have he := HE.out
    go_simp
    clear he
    refine (HC.out _ OM.out).mono ?_
    rintro x w3 ⟨A, n, c, rfl, hl, hr, hf, hO3, o3⟩
    refine hK _ _ o3 ?_
    clear hK K
    try simp only [Act.put, List.setIfInBounds_toArray, List.set_cons_zero, List.set_cons_succ]
    have HL := hid hl; have HR := hid hr; have HFr := hid hf; have OM := hid hO3; have HZ := hid QM.out.size; have QM := hid (QM.out.trans o3)
    clear hl hr hf hO3 o3
    refine rgn.Walk.es ?_
    refine rgn.stepE rfl rfl (fun K hK => ?_)
    go_simp
    refine hK _ _ ((Only.refl [m]) _) ?_
    clear hK K
    try simp only [Act.put, List.setIfInBounds_toArray, List.set_cons_zero, List.set_cons_succ]
    refine rgn.Walk.zs (NoPanic.normal ?_)
    go_wp2_with fail
    go_ret
    exact ⟨A, n, c, rfl, HL.out, HR.out, fun b off e => Nat.le_trans HZ.out (HFr.out b off e), OM.out, QM.out⟩
  · have HS : Hid (decide (3 ≤ s.st) = false) := hid (by simpa using hst)
    clear hno hst
    go_enter Try.func21, Try.ntmps21
    go_wp2_with fail
    refine (none1 _ g m OC.out).mono ?_
    rintro x w1 ⟨rfl, rfl⟩
    go_wp2_with fail
    refine wp_region_noPanic ?_
    refine rgn.regionT (R := Only []) (by kernel_rfl) (Only.refl []) (fun _ _ _ => Only.trans) (fun _ _ _ _ _ h => h) (.y 0 (.y 1 (.y 2 (.y 3 (.e 4 (.y 5 (.y 6 (.y 7 (.y 8 (.y 9 (.y 10 (.y 11 (.y 12 (.y 13 (.y 14 (.y 15 (.y 16 (.y 17 (.e 18 (.e 19 (.y 20 (.y 21 .z)))))))))))))))))))))) (by kernel_rfl) (fun W hWd => ?_)
    have HWd := hid hWd; clear hWd
    clear c0 k8
    have q8 : Only [] w W := Only.eq_drew (Only.refl [] _) HWd.out
    have OM := hid (OM.out.only q8 (by simp)); have OC := hid (OC.out.only q8 (by simp)); have QM := hid (QM.out.trans (q8.more (by simp)))
    clear q8 HWd
    have c0 := OC.out.cell 0; have k8 := k_due OM.out
    refine rgn.Walk.ys (v := ?_) rfl rfl rfl ?_ ?_
    rotate_left 1
    · intro W' hW'
      go_simp
      try with_reducible rfl
    try simp only [Act.put, List.setIfInBounds_toArray, List.set_cons_zero, List.set_cons_succ]
    refine rgn.Walk.ys (v := ?_) rfl rfl rfl ?_ ?_
    rotate_left 1
    · intro W' hW'
      go_simp
      try with_reducible rfl
    try simp only [Act.put, List.setIfInBounds_toArray, List.set_cons_zero, List.set_cons_succ]
    refine rgn.Walk.ys (v := ?_) rfl rfl rfl ?_ ?_
    rotate_left 1
    · intro W' hW'
      go_simp
      try with_reducible rfl
    try simp only [Act.put, List.setIfInBounds_toArray, List.set_cons_zero, List.set_cons_succ]
    refine rgn.Walk.ys (v := ?_) rfl rfl rfl ?_ ?_
    rotate_left 1
    · intro W' hW'
      have q0 := (OC.out.only hW' (by simp)).cell 0
      go_simp
      try with_reducible rfl
    try simp only [Act.put, List.setIfInBounds_toArray, List.set_cons_zero, List.set_cons_succ]
    refine rgn.Walk.es ?_
    refine rgn.stepE rfl rfl (fun K hK => ?_)
    go_simp
    refine (has1 _ m _ _ s _ OM.out HS.out).mono ?_
    rintro x w4 ⟨rfl, rfl⟩
    refine hK _ _ (Only.refl _ _) ?_
    clear hK K
    try simp only [Act.put, List.setIfInBounds_toArray, List.set_cons_zero, List.set_cons_succ]
    refine rgn.Walk.ys (v := ?_) rfl rfl rfl ?_ ?_
    rotate_left 1
    · intro W' hW'
      go_simp
      try with_reducible rfl
    try simp only [Act.put, List.setIfInBounds_toArray, List.set_cons_zero, List.set_cons_succ]
    refine rgn.Walk.yn rfl rfl rfl ?_
    try simp only [Act.put, List.setIfInBounds_toArray, List.set_cons_zero, List.set_cons_succ]
    refine rgn.Walk.yn rfl rfl rfl ?_
    try simp only [Act.put, List.setIfInBounds_toArray, List.set_cons_zero, List.set_cons_succ]
    refine rgn.Walk.yn rfl rfl rfl ?_
    try simp only [Act.put, List.setIfInBounds_toArray, List.set_cons_zero, List.set_cons_succ]
    refine rgn.Walk.yn rfl rfl rfl ?_
    try simp only [Act.put, List.setIfInBounds_toArray, List.set_cons_zero, List.set_cons_succ]
    refine rgn.Walk.yn rfl rfl rfl ?_
    try simp only [Act.put, List.setIfInBounds_toArray, List.set_cons_zero, List.set_cons_succ]
    refine rgn.Walk.yn rfl rfl rfl ?_
    try simp only [Act.put, List.setIfInBounds_toArray, List.set_cons_zero, List.set_cons_succ]
    refine rgn.Walk.yn rfl rfl rfl ?_
    try simp only [Act.put, List.setIfInBounds_toArray, List.set_cons_zero, List.set_cons_succ]
    refine rgn.Walk.yn rfl rfl rfl ?_
    try simp only [Act.put, List.setIfInBounds_toArray, List.set_cons_zero, List.set_cons_succ]
    refine rgn.Walk.yn rfl rfl rfl ?_
    try simp only [Act.put, List.setIfInBounds_toArray, List.set_cons_zero, List.set_cons_succ]
    refine rgn.Walk.yn rfl rfl rfl ?_
    try simp only [Act.put, List.setIfInBounds_toArray, List.set_cons_zero, List.set_cons_succ]
    refine rgn.Walk.yn rfl rfl rfl ?_
    try simp only [Act.put, List.setIfInBounds_toArray, List.set_cons_zero, List.set_cons_succ]
    refine rgn.Walk.yn rfl rfl rfl ?_
    try simp only [Act.put, List.setIfInBounds_toArray, List.set_cons_zero, List.set_cons_succ]
    refine rgn.Walk.es (rgn.stepN (Only.refl []) rfl rfl rfl ?_)
    try simp only [Act.put, List.setIfInBounds_toArray, List.set_cons_zero, List.set_cons_succ]
    refine rgn.Walk.es (rgn.stepN (Only.refl []) rfl rfl rfl ?_)
    try simp only [Act.put, List.setIfInBounds_toArray, List.set_cons_zero, List.set_cons_succ]
    refine rgn.Walk.yn rfl rfl rfl ?_
    try simp only [Act.put, List.setIfInBounds_toArray, List.set_cons_zero, List.set_cons_succ]
    refine rgn.Walk.ys (v := ?_) rfl rfl rfl ?_ ?_
    rotate_left 1
    · intro W' hW'
      go_simp
      try with_reducible rfl
    try simp only [Act.put, List.setIfInBounds_toArray, List.set_cons_zero, List.set_cons_succ]
    refine rgn.Walk.zs (NoPanic.normal ?_)
    go_wp2_with fail
    clear c0 k8 hd
    have k60 : (k : Int) < 6 := by omega
    refine wp_region_noPanic ?_
    refine rgn.regionT (R := Only [m]) (by kernel_rfl) (Only.refl [m]) (fun _ _ _ => Only.trans) (fun _ _ _ _ _ h => h) (.y 0 (.y 1 (.y 2 (.y 3 (.y 4 (.y 5 (.y 6 (.y 7 (.y 8 (.y 9 (.y 11 (.y 12 (.y 15 (.y 16 (.e 10 (.y 13 (.e 14 (.e 17 (.e 18 .z))))))))))))))))))) (by kernel_rfl) (fun WZ hWd => ?_)
    have HWd := hid hWd; clear hWd
    have q8 : Only [] W WZ := Only.eq_drew (Only.refl [] _) HWd.out
    have OM := hid (OM.out.only q8 (by simp)); have OC := hid (OC.out.only q8 (by simp)); have QM := hid (QM.out.trans (q8.more (by simp)))
    clear q8 HWd
    refine rgn.Walk.ys (v := ?_) rfl rfl rfl ?_ ?_
    rotate_left 1
    · intro W' hW'
      go_simp
      try with_reducible rfl
    try simp only [Act.put, List.setIfInBounds_toArray, List.set_cons_zero, List.set_cons_succ]
    refine rgn.Walk.ys (v := ?_) rfl rfl rfl ?_ ?_
    rotate_left 1
    · intro W' hW'
      go_simp
      try with_reducible rfl
    try simp only [Act.put, List.setIfInBounds_toArray, List.set_cons_zero, List.set_cons_succ]
    refine rgn.Walk.ys (v := ?_) rfl rfl rfl ?_ ?_
    rotate_left 1
    · intro W' hW'
      go_simp
      try with_reducible rfl
    try simp only [Act.put, List.setIfInBounds_toArray, List.set_cons_zero, List.set_cons_succ]
    refine rgn.Walk.ys (v := ?_) rfl rfl rfl ?_ ?_
    rotate_left 1
    · intro W' hW'
      have q0 := (OC.out.only hW' HGM.out).cell 0
      go_simp
      try with_reducible rfl
    try simp only [Act.put, List.setIfInBounds_toArray, List.set_cons_zero, List.set_cons_succ]
    refine rgn.Walk.ys (v := ?_) rfl rfl rfl ?_ ?_
    rotate_left 1
    · intro W' hW'
      go_simp
      try with_reducible rfl
    try simp only [Act.put, List.setIfInBounds_toArray, List.set_cons_zero, List.set_cons_succ]
    refine rgn.Walk.ys (v := ?_) rfl rfl rfl ?_ ?_
    rotate_left 1
    · intro W' hW'
      go_simp
      try with_reducible rfl
    try simp only [Act.put, List.setIfInBounds_toArray, List.set_cons_zero, List.set_cons_succ]
    refine rgn.Walk.ys (v := ?_) rfl rfl rfl ?_ ?_
    rotate_left 1
    · intro W' hW'
      go_simp
      try with_reducible rfl
    try simp only [Act.put, List.setIfInBounds_toArray, List.set_cons_zero, List.set_cons_succ]
    refine rgn.Walk.ys (v := ?_) rfl rfl rfl ?_ ?_
    rotate_left 1
    · intro W' hW'
      have q0 := (OC.out.only hW' HGM.out).cell 0
      go_simp
      try with_reducible rfl
    try simp only [Act.put, List.setIfInBounds_toArray, List.set_cons_zero, List.set_cons_succ]
    refine rgn.Walk.ys (v := ?_) rfl rfl rfl ?_ ?_
    rotate_left 1
    · intro W' hW'
      go_simp
      try with_reducible rfl
    try simp only [Act.put, List.setIfInBounds_toArray, List.set_cons_zero, List.set_cons_succ]
    refine rgn.Walk.ys (v := ?_) rfl rfl rfl ?_ ?_
    rotate_left 1
    · intro W' hW'
      go_simp
      try with_reducible rfl
    try simp only [Act.put, List.setIfInBounds_toArray, List.set_cons_zero, List.set_cons_succ]
    refine rgn.Walk.ys (v := ?_) rfl rfl rfl ?_ ?_
    rotate_left 1
    · intro W' hW'
      go_simp
      try with_reducible rfl
    try simp only [Act.put, List.setIfInBounds_toArray, List.set_cons_zero, List.set_cons_succ]
    refine rgn.Walk.ys (v := ?_) rfl rfl rfl ?_ ?_
    rotate_left 1
    · intro W' hW'
      go_simp
      try with_reducible rfl
    try simp only [Act.put, List.setIfInBounds_toArray, List.set_cons_zero, List.set_cons_succ]
    refine rgn.Walk.ys (v := ?_) rfl rfl rfl ?_ ?_
    rotate_left 1
    · intro W' hW'
      go_simp
      try with_reducible rfl
    try simp only [Act.put, List.setIfInBounds_toArray, List.set_cons_zero, List.set_cons_succ]
    refine rgn.Walk.ys (v := ?_) rfl rfl rfl ?_ ?_
    rotate_left 1
    · intro W' hW'
      go_simp
      try with_reducible rfl
    try simp only [Act.put, List.setIfInBounds_toArray, List.set_cons_zero, List.set_cons_succ]
    refine rgn.Walk.es ?_
    refine rgn.stepE rfl rfl (fun K hK => ?_)
    have qq := k_st OM.out
    rw [HK.out] at qq
    go_simp
    refine hK _ _ (Only.refl _ _) ?_
    clear hK K qq
    try simp only [Act.put, List.setIfInBounds_toArray, List.set_cons_zero, List.set_cons_succ]
    refine rgn.Walk.ys (v := ?_) rfl rfl rfl ?_ ?_
    rotate_left 1
    · intro W' hW'
      go_simp
      try with_reducible rfl
    try simp only [Act.put, List.setIfInBounds_toArray, List.set_cons_zero, List.set_cons_succ]
    refine rgn.Walk.es ?_
    refine rgn.stepE rfl rfl (fun K hK => ?_)
    have qq := (k_t OM.out HK6.out).trans HF.out
    go_simp
    refine hK _ _ (Only.refl _ _) ?_
    clear hK K qq
    try simp only [Act.put, List.setIfInBounds_toArray, List.set_cons_zero, List.set_cons_succ]
    refine rgn.Walk.es ?_
    refine rgn.stepE rfl rfl (fun K hK => ?_)
    have he := HE.out
    go_simp
    clear he
    refine (HC.out _ OM.out).mono ?_
    rintro x w3 ⟨A, n, c, rfl, hl, hr, hf, hO3, o3⟩
    refine hK _ _ o3 ?_
    clear hK K
    try simp only [Act.put, List.setIfInBounds_toArray, List.set_cons_zero, List.set_cons_succ]
    have HL := hid hl; have HR := hid hr; have HFr := hid hf; have OM := hid hO3; have HZ := hid QM.out.size; have QM := hid (QM.out.trans o3)
    clear hl hr hf hO3 o3
    refine rgn.Walk.es ?_
    refine rgn.stepE rfl rfl (fun K hK => ?_)
    go_simp
    refine hK _ _ ((Only.refl [m]) _) ?_
    clear hK K
    try simp only [Act.put, List.setIfInBounds_toArray, List.set_cons_zero, List.set_cons_succ]
    refine rgn.Walk.zs (NoPanic.normal ?_)
    go_wp2_with fail
    go_ret
    exact ⟨A, n, c, rfl, HL.out, HR.out, fun b off e => Nat.le_trans HZ.out (HFr.out b off e), OM.out, QM.out⟩
/-- What a message makes of a client. -/
def Mc.hear (s : Mc) (l : Lm) (now draw : Int) : Mc × List Lm := if l.op = 2 ∧ l.id = s.id ∧ macEq l s = true then (if s.st = 1 then s.offered l now draw else if s.st = 2 then s.granted l s.of now draw else if s.st = 4 ∨ s.st = 5 then s.granted l s.le now draw else (s, [])) else (s, [])
/-- What a tick makes of it. -/
def Mc.tick (s : Mc) (now draw : Int) : Mc × List Lm := if 3 ≤ s.st ∧ laterZ s.be (10 * s.le.ti) ≤ now then (s.begin now draw, [(s.begin now draw).sent 1 0 0]) else if now < s.due then (s, []) else if s.st = 0 then (s, []) else if s.st = 1 ∨ s.st = 2 then s.again now draw else s.renew now
/-- What holds of a client at every step. -/
structure Ok (s : Mc) : Prop where
  st : 0 ≤ s.st ∧ s.st ≤ 5
  tr : 0 ≤ s.tr ∧ s.tr ≤ 4
  ti : 0 ≤ s.le.ti ∧ s.le.ti ≤ 2147483647
  be : Tk s.be
theorem Ok.begin {s : Mc} (h : Ok s) (now draw : Int) : Ok (s.begin now draw) := ⟨by unfold Mc.begin; simp, by unfold Mc.begin; simp, by unfold Mc.begin Lm.zero; simp, h.be⟩
theorem Ok.new (a0 a1 a2 a3 a4 a5 : Int) : Ok (Mc.new a0 a1 a2 a3 a4 a5) := ⟨by unfold Mc.new; simp, by unfold Mc.new; simp, by unfold Mc.new Lm.zero; simp, by unfold Mc.new Tk; simp⟩
theorem Ok.granted {s : Mc} (h : Ok s) (l wl : Lm) (now draw : Int) (hn : Tk now) : Ok (s.granted l wl now draw).1 := by
  unfold Mc.granted
  split
  · exact ⟨by simp [Mc.bound], h.tr, by have := kept_bd l wl.sv; exact ⟨by show 0 ≤ (l.kept wl.sv).ti; omega, this.2⟩, hn⟩
  · split
    · exact h.begin now draw
    · exact h
theorem Ok.hear {s : Mc} (h : Ok s) (l : Lm) (now draw : Int) (hn : Tk now) : Ok (s.hear l now draw).1 := by
  unfold Mc.hear
  split
  · split
    · unfold Mc.offered
      split
      · exact ⟨by simp, by simp, h.ti, h.be⟩
      · exact h
    · split
      · exact h.granted l _ now draw hn
      · split
        · exact h.granted l _ now draw hn
        · exact h
  · exact h
theorem Ok.tick {s : Mc} (h : Ok s) (now draw : Int) (hn : Tk now) : Ok (s.tick now draw).1 := by
  unfold Mc.tick
  split
  · exact h.begin now draw
  · split
    · exact h
    · split
      · exact h
      · split
        · unfold Mc.again
          split
          · exact h.begin now draw
          · have := h.tr; exact ⟨h.st, by simp; omega, h.ti, h.be⟩
        · refine ⟨?_, h.tr, h.ti, h.be⟩
          have := h.st
          unfold Mc.renew
          simp only
          split
          · omega
          · split <;> omega
theorem Ok.start {s : Mc} (h : Ok s) (now draw : Int) : Ok (s.start now draw).1 := by
  unfold Mc.start
  split
  · exact h.begin now draw
  · exact h
theorem Ok.free {s : Mc} (h : Ok s) : Ok s.free.1 := ⟨by simp [Mc.free], h.tr, by simp [Mc.free, Lm.zero], h.be⟩
theorem st_cases {x : Int} (h : 0 ≤ x ∧ x ≤ 5) : x = 0 ∨ x = 1 ∨ x = 2 ∨ x = 3 ∨ x = 4 ∨ x = 5 := by omega
theorem hear1 (w : World) (g m : Nat) (s : Mc) (l : Lm) (now draw : Int) (h : CI w g m s) (hn : Tk now) (hok : Ok s) :
    Calls Try.prog 19 #[.pointer (some ⟨g, 0, none⟩), .agg l.cs, .int .i64 now, .int .i64 draw] w (StepE m 82 (hearV m ++ tickV m) (s.hear l now draw).1 (s.hear l now draw).2 w) := by
  by_cases hy : l.op = 2 ∧ l.id = s.id ∧ macEq l s = true
  · obtain ⟨h1, h2, h3⟩ := hy
    rcases st_cases hok.st with e | e | e | e | e | e
    · have hG : s.hear l now draw = (s, []) := by unfold Mc.hear; rw [if_pos ⟨h1, h2, h3⟩, e]; rfl
      rw [hG]
      exact hearT w g m s _ _ l now draw 0 41 h hn h1 h2 h3 e (by decide) rfl (fun args W => ev.run_callFunc (k := 41) Try.func41 (by kernel_rfl) (by kernel_rfl) W) (fun W hO => ignore1 W m _ _ s l now draw hO hn)
    · have hG : s.hear l now draw = s.offered l now draw := by unfold Mc.hear; rw [if_pos ⟨h1, h2, h3⟩, e]; rfl
      rw [hG]
      exact hearT w g m s _ _ l now draw 1 42 h hn h1 h2 h3 e (by decide) rfl (fun args W => ev.run_callFunc (k := 42) Try.func42 (by kernel_rfl) (by kernel_rfl) W) (fun W hO => hearOffer1 W m _ _ s l now draw hO hn)
    · have hG : s.hear l now draw = s.granted l s.of now draw := by unfold Mc.hear; rw [if_pos ⟨h1, h2, h3⟩, e]; rfl
      rw [hG]
      exact hearT w g m s _ _ l now draw 2 43 h hn h1 h2 h3 e (by decide) rfl (fun args W => ev.run_callFunc (k := 43) Try.func43 (by kernel_rfl) (by kernel_rfl) W) (fun W hO => hearGrant1 W m _ _ s l now draw hO hn)
    · have hG : s.hear l now draw = (s, []) := by unfold Mc.hear; rw [if_pos ⟨h1, h2, h3⟩, e]; rfl
      rw [hG]
      exact hearT w g m s _ _ l now draw 3 41 h hn h1 h2 h3 e (by decide) rfl (fun args W => ev.run_callFunc (k := 41) Try.func41 (by kernel_rfl) (by kernel_rfl) W) (fun W hO => ignore1 W m _ _ s l now draw hO hn)
    · have hG : s.hear l now draw = s.granted l s.le now draw := by unfold Mc.hear; rw [if_pos ⟨h1, h2, h3⟩, e]; rfl
      rw [hG]
      exact hearT w g m s _ _ l now draw 4 44 h hn h1 h2 h3 e (by decide) rfl (fun args W => ev.run_callFunc (k := 44) Try.func44 (by kernel_rfl) (by kernel_rfl) W) (fun W hO => hearRenewal1 W m _ _ s l now draw hO hn)
    · have hG : s.hear l now draw = s.granted l s.le now draw := by unfold Mc.hear; rw [if_pos ⟨h1, h2, h3⟩, e]; rfl
      rw [hG]
      exact hearT w g m s _ _ l now draw 5 44 h hn h1 h2 h3 e (by decide) rfl (fun args W => ev.run_callFunc (k := 44) Try.func44 (by kernel_rfl) (by kernel_rfl) W) (fun W hO => hearRenewal1 W m _ _ s l now draw hO hn)
  · have hG : s.hear l now draw = (s, []) := if_neg hy
    rw [hG]
    exact hearNo w g m s l now draw h hn hy
theorem tick1 (w : World) (g m : Nat) (s : Mc) (now draw : Int) (h : CI w g m s) (hn : Tk now) (hok : Ok s) :
    Calls Try.prog 21 #[.pointer (some ⟨g, 0, none⟩), .int .i64 now, .int .i64 draw] w (StepE m 82 (hearV m ++ tickV m) (s.tick now draw).1 (s.tick now draw).2 w) := by
  by_cases ho : 3 ≤ s.st ∧ laterZ s.be (10 * s.le.ti) ≤ now
  · have hG : s.tick now draw = (s.begin now draw, [(s.begin now draw).sent 1 0 0]) := if_pos ho
    rw [hG]
    exact tickB w g m s now draw h hn hok.ti hok.be ho
  · by_cases hd : now < s.due
    · have hG : s.tick now draw = (s, []) := by unfold Mc.tick; rw [if_neg ho, if_pos hd]
      rw [hG]
      exact tickN w g m s now draw h hn hok.ti hok.be ho hd
    · rcases st_cases hok.st with e | e | e | e | e | e
      · have hG : s.tick now draw = (s, []) := by unfold Mc.tick; rw [if_neg ho, if_neg hd, if_pos e]
        rw [hG]
        exact tickT w g m s _ _ 0 45 now draw h hn hok.ti hok.be ho hd e (by decide) rfl (fun args W => ev.run_callFunc (k := 45) Try.func45 (by kernel_rfl) (by kernel_rfl) W) (fun W hO => rest1 W m _ _ s now draw hO)
      · have hG : s.tick now draw = s.again now draw := by unfold Mc.tick; rw [if_neg ho, if_neg hd, if_neg (by omega), if_pos (by omega)]
        rw [hG]
        exact tickT w g m s _ _ 1 46 now draw h hn hok.ti hok.be ho hd e (by decide) rfl (fun args W => ev.run_callFunc (k := 46) Try.func46 (by kernel_rfl) (by kernel_rfl) W) (fun W hO => tryAgain1 W m _ _ s now draw hO hn hok.tr)
      · have hG : s.tick now draw = s.again now draw := by unfold Mc.tick; rw [if_neg ho, if_neg hd, if_neg (by omega), if_pos (by omega)]
        rw [hG]
        exact tickT w g m s _ _ 2 46 now draw h hn hok.ti hok.be ho hd e (by decide) rfl (fun args W => ev.run_callFunc (k := 46) Try.func46 (by kernel_rfl) (by kernel_rfl) W) (fun W hO => tryAgain1 W m _ _ s now draw hO hn hok.tr)
      · have hG : s.tick now draw = s.renew now := by unfold Mc.tick; rw [if_neg ho, if_neg hd, if_neg (by omega), if_neg (by omega)]
        rw [hG]
        exact tickT w g m s _ _ 3 47 now draw h hn hok.ti hok.be ho hd e (by decide) rfl (fun args W => ev.run_callFunc (k := 47) Try.func47 (by kernel_rfl) (by kernel_rfl) W) (fun W hO => renew1 W m _ _ s now draw hO hn hok.ti hok.be)
      · have hG : s.tick now draw = s.renew now := by unfold Mc.tick; rw [if_neg ho, if_neg hd, if_neg (by omega), if_neg (by omega)]
        rw [hG]
        exact tickT w g m s _ _ 4 47 now draw h hn hok.ti hok.be ho hd e (by decide) rfl (fun args W => ev.run_callFunc (k := 47) Try.func47 (by kernel_rfl) (by kernel_rfl) W) (fun W hO => renew1 W m _ _ s now draw hO hn hok.ti hok.be)
      · have hG : s.tick now draw = s.renew now := by unfold Mc.tick; rw [if_neg ho, if_neg hd, if_neg (by omega), if_neg (by omega)]
        rw [hG]
        exact tickT w g m s _ _ 5 47 now draw h hn hok.ti hok.be ho hd e (by decide) rfl (fun args W => ev.run_callFunc (k := 47) Try.func47 (by kernel_rfl) (by kernel_rfl) W) (fun W hO => renew1 W m _ _ s now draw hO hn hok.ti hok.be)
end Go.Proofs.Ytdpmjghdmpaehaa.lp
/-
  Chapter 23 (lease): the document's client: what it does by itself, by a walk of each text. Conditions: none but those typed.
-/
namespace Go.Proofs.Ytdpmjghdmpaehaa.lp
set_option linter.unusedVariables false
set_option linter.unusedSimpArgs false
open Go.ChangeShapes Go.WideShapes Go.ChangeAt Go.RowKit Go.IntWalk Go.Lib
def Mc.dbegin (s : Mc) (now draw : Int) : Mc := {s with st := 1, le := Lm.zero, id := IntKind.u32.wrap draw, tr := 1, due := laterZ now 40}
def Mc.dstart (s : Mc) (now draw : Int) : Mc × List Lm := if s.st = 0 then (s.dbegin now draw, [(s.dbegin now draw).sent 1 0 0]) else (s, [])
def Mc.dfree (s : Mc) : Mc × List Lm := ({s with st := 0, le := Lm.zero}, if 3 ≤ s.st then [s.sent 7 s.le.yo s.le.sv] else [])
set_option maxRecDepth 100000 in
set_option maxHeartbeats 8000000 in
theorem beginD (w : World) (m : Nat) (T : TypeId) (tl : List Value) (s : Mc) (now draw : Int) (hO : Ob w m T (s.cs tl)) (hn : Tk now) :
    Calls Try.prog 50 #[.pointer (some ⟨m, 0, none⟩), .int .i64 now, .int .i64 draw] w (StepE m T tl (s.dbegin now draw) [(s.dbegin now draw).sent 1 0 0] w) := by
  have OM := hid hO; have QM := hid (Only.refl [m] w); have HNow := hid hn
  clear hO hn
  go_enter Try.func50, Try.ntmps50
  go_wp2_with (first | (refine wp_put rfl _ _ _ rfl m 6 rfl (.int .i64 1) rfl OM.out (by kernel_rfl) (Nat.le_trans (show _ ≤ 43 from Nat.le_of_ble_eq_true rfl) (mcs_size _ _)) (one_i _ _) (p_st OM.out 1) ?_) | fail)
  intro W9 hb9 o9
  try simp only [Act.put, List.setIfInBounds_toArray, List.set_cons_zero, List.set_cons_succ]
  have OM := hid hb9; have QM := hid (QM.out.trans o9)
  clear hb9 o9
  go_wp2_with (first | (refine wp_put rfl _ _ _ rfl m 26 rfl (.agg Lm.zero.cs) rfl OM.out (by kernel_rfl) (Nat.le_trans (show _ ≤ 43 from Nat.le_of_ble_eq_true rfl) (mcs_size _ _)) (one_l _) (p_le OM.out Lm.zero) ?_) | fail)
  intro W9 hb9 o9
  try simp only [Act.put, List.setIfInBounds_toArray, List.set_cons_zero, List.set_cons_succ]
  have OM := hid hb9; have QM := hid (QM.out.trans o9)
  clear hb9 o9
  go_wp2_with (first | (refine wp_put rfl _ _ _ rfl m 7 rfl (.int .u32 (IntKind.u32.wrap draw)) rfl OM.out (by kernel_rfl) (Nat.le_trans (show _ ≤ 43 from Nat.le_of_ble_eq_true rfl) (mcs_size _ _)) (one_i _ _) (p_id OM.out (IntKind.u32.wrap draw)) ?_) | fail)
  intro W9 hb9 o9
  try simp only [Act.put, List.setIfInBounds_toArray, List.set_cons_zero, List.set_cons_succ]
  have OM := hid hb9; have QM := hid (QM.out.trans o9)
  clear hb9 o9
  go_wp2_with (first | (refine wp_put rfl _ _ _ rfl m 9 rfl (.int .i64 1) rfl OM.out (by kernel_rfl) (Nat.le_trans (show _ ≤ 43 from Nat.le_of_ble_eq_true rfl) (mcs_size _ _)) (one_i _ _) (p_tr OM.out 1) ?_) | fail)
  intro W9 hb9 o9
  try simp only [Act.put, List.setIfInBounds_toArray, List.set_cons_zero, List.set_cons_succ]
  have OM := hid hb9; have QM := hid (QM.out.trans o9)
  clear hb9 o9
  go_wp2_with fail
  refine (rlater _ now 40 (by omega) HNow.out).mono ?_
  rintro x w2 ⟨rfl, rfl⟩
  go_wp2_with (first | (refine wp_put rfl _ _ _ rfl m 8 rfl (.int .i64 (laterZ now 40)) rfl OM.out (by kernel_rfl) (Nat.le_trans (show _ ≤ 43 from Nat.le_of_ble_eq_true rfl) (mcs_size _ _)) (one_i _ _) (p_due OM.out (laterZ now 40)) ?_) | fail)
  intro W9 hb9 o9
  try simp only [Act.put, List.setIfInBounds_toArray, List.set_cons_zero, List.set_cons_succ]
  have OM := hid hb9; have QM := hid (QM.out.trans o9)
  clear hb9 o9
  go_wp2_with fail
  refine (sends1 _ m T tl _ 1 0 0 OM.out).mono ?_
  rintro x w3 ⟨A, n, c, rfl, hl, hr, hf, o3⟩
  have HL := hid hl; have HR := hid hr; have HF := hid hf; have OM := hid (OM.out.only o3 (by simp)); have HZ := hid QM.out.size; have QM := hid (QM.out.trans (o3.more (by simp)))
  clear hl hr hf o3
  go_wp2_with fail
  go_ret
  exact ⟨A, n, c, rfl, HL.out, HR.out, fun b off e => Nat.le_trans HZ.out (HF.out b off e), OM.out, QM.out⟩
set_option maxRecDepth 100000 in
set_option maxHeartbeats 8000000 in
theorem startD (w : World) (m : Nat) (T : TypeId) (tl : List Value) (s : Mc) (now draw : Int) (hO : Ob w m T (s.cs tl)) (hn : Tk now) :
    Calls Try.prog 18 #[.pointer (some ⟨m, 0, none⟩), .int .i64 now, .int .i64 draw] w (StepE m T tl (s.dstart now draw).1 (s.dstart now draw).2 w) := by
  have OM := hid hO; have QM := hid (Only.refl [m] w); have HNow := hid hn
  clear hO hn
  have k6 := k_st OM.out
  by_cases h0 : s.st = 0
  · have e1 : (s.st != 0) = false := by simp [h0]
    have HG : Hid (s.dstart now draw = (s.dbegin now draw, [(s.dbegin now draw).sent 1 0 0])) := hid (if_pos h0)
    rw [HG.out]
    clear h0
    go_enter Try.func18, Try.ntmps18
    go_wp2_with fail
    refine (beginD _ m T tl s now draw OM.out HNow.out).mono ?_
    rintro x w3 ⟨A, n, c, rfl, hl, hr, hf, hO3, o3⟩
    have HL := hid hl; have HR := hid hr; have HF := hid hf; have OM := hid hO3; have HZ := hid QM.out.size; have QM := hid (QM.out.trans o3)
    clear hl hr hf hO3 o3
    clear k6 e1
    go_wp2_with fail
    go_ret
    exact ⟨A, n, c, rfl, HL.out, HR.out, fun b off e => Nat.le_trans HZ.out (HF.out b off e), OM.out, QM.out⟩
  · have e1 : (s.st != 0) = true := by simp [h0]
    have HG : Hid (s.dstart now draw = (s, [])) := hid (if_neg h0)
    rw [HG.out]
    clear h0
    go_enter Try.func18, Try.ntmps18
    go_wp2_with fail
    go_ret
    exact step_none OM.out QM.out
set_option maxRecDepth 100000 in
set_option maxHeartbeats 8000000 in
theorem releaseD (w : World) (m : Nat) (T : TypeId) (tl : List Value) (s : Mc) (hO : Ob w m T (s.cs tl)) :
    Calls Try.prog 24 #[.pointer (some ⟨m, 0, none⟩)] w (StepE m T tl s.dfree.1 s.dfree.2 w) := by
  have OM := hid hO; have QM := hid (Only.refl [m] w)
  have k6 := k_st OM.out
  clear hO
  by_cases hs : 3 ≤ s.st
  · have HG : Hid (s.dfree = ({s with st := 0, le := Lm.zero}, [s.sent 7 s.le.yo s.le.sv])) := hid (by unfold Mc.dfree; rw [if_pos hs])
    rw [HG.out]
    go_enter Try.func24, Try.ntmps24
    go_wp2_with (first | (refine wp_put rfl _ _ _ rfl m 6 rfl (.int .i64 0) rfl OM.out (by kernel_rfl) (Nat.le_trans (show _ ≤ 43 from Nat.le_of_ble_eq_true rfl) (mcs_size _ _)) (one_i _ _) (p_st OM.out 0) ?_) | fail)
    intro W9 hb9 o9
    try simp only [Act.put, List.setIfInBounds_toArray, List.set_cons_zero, List.set_cons_succ]
    have OM := hid hb9; have QM := hid (QM.out.trans o9)
    clear hb9 o9
    clear hs
    obtain ⟨b, hb⟩ : ∃ b, W9.heap.size = b := ⟨_, rfl⟩
    obtain ⟨W2, hW2⟩ : ∃ W2, W9.alloc (.cells #[.int .i64 0, .int .u32 0, .int .u32 0, .int .u8 0, .int .u8 0, .int .u8 0, .int .u8 0, .int .u8 0, .int .u8 0, .int .i64 0, .int .u32 0, .int .u32 0, .int .i64 0, .int .u32 0, .int .u32 0, .int .u32 0] 27) = W2 := ⟨_, rfl⟩
    have OB : Hid (Ob W2 b 27 Lm.zero.cs) := hid (by rw [← hW2, ← hb]; exact Ob.new _ _ _)
    have o2 : Only [] W9 W2 := by rw [← hW2]; exact (Only.refl [] W9).alloc _
    have HBM : Hid (b ≠ m) := hid (by have := OM.out.lt; omega)
    have HBW : Hid (w.heap.size ≤ b) := hid (by have := QM.out.size; omega)
    have OM0 := OM
    have OM := hid (OM.out.only o2 (by simp)); have QM := hid (QM.out.trans (o2.more (by simp)))
    clear o2
    go_wp2_with (first | (refine wp_lm rfl 27 _ rfl m 26 rfl _ (r_le OM0.out) Try.underlying27 rfl (by kernel_rfl) ?_; try simp only [Act.put, List.setIfInBounds_toArray, List.set_cons_zero, List.set_cons_succ]) | (refine wp_put rfl _ _ _ rfl b 0 rfl (.agg s.le.cs) rfl OB.out (by kernel_rfl) (show _ ≤ 16 from Nat.le_of_ble_eq_true rfl) (one_l _) (p_all OB.out s.le) ?_) | fail)
    intro W9 hb9 o9
    try simp only [Act.put, List.setIfInBounds_toArray, List.set_cons_zero, List.set_cons_succ]
    have OB := hid hb9; have OM := hid (OM.out.only o9 (by simpa using HBM.out.symm)); have QM := hid (QM.out.fresh o9 (fun i hi => .inr (by rw [List.mem_singleton.1 hi]; exact HBW.out)))
    clear hb9 o9 hW2 hb k6
    go_wp2_with (first | (refine wp_put rfl _ _ _ rfl m 26 rfl (.agg Lm.zero.cs) rfl OM.out (by kernel_rfl) (Nat.le_trans (show _ ≤ 43 from Nat.le_of_ble_eq_true rfl) (mcs_size _ _)) (one_l _) (p_le OM.out Lm.zero) ?_) | fail)
    intro W9 hb9 o9
    try simp only [Act.put, List.setIfInBounds_toArray, List.set_cons_zero, List.set_cons_succ]
    have OM := hid hb9; have QM := hid (QM.out.trans o9)
    have OB := hid (OB.out.only o9 (by simpa using HBM.out))
    clear hb9 o9
    have e2 := l_yo OB.out; have e5 := l_sv OB.out
    go_wp2_with fail
    refine (sends1 _ m T tl _ 7 s.le.yo s.le.sv OM.out).mono ?_
    rintro x w3 ⟨A, n, c, rfl, hl, hr, hf, o3⟩
    have HL := hid hl; have HR := hid hr; have HF := hid hf; have OM := hid (OM.out.only o3 (by simp)); have HZ := hid QM.out.size; have QM := hid (QM.out.trans (o3.more (by simp)))
    clear hl hr hf o3
    clear e2 e5
    go_wp2_with fail
    go_ret
    exact ⟨A, n, c, rfl, HL.out, HR.out, fun b off e => Nat.le_trans HZ.out (HF.out b off e), OM.out, QM.out⟩
  · have HG : Hid (s.dfree = ({s with st := 0, le := Lm.zero}, [])) := hid (by unfold Mc.dfree; rw [if_neg hs])
    rw [HG.out]
    go_enter Try.func24, Try.ntmps24
    go_wp2_with (first | (refine wp_put rfl _ _ _ rfl m 6 rfl (.int .i64 0) rfl OM.out (by kernel_rfl) (Nat.le_trans (show _ ≤ 43 from Nat.le_of_ble_eq_true rfl) (mcs_size _ _)) (one_i _ _) (p_st OM.out 0) ?_) | fail)
    intro W9 hb9 o9
    try simp only [Act.put, List.setIfInBounds_toArray, List.set_cons_zero, List.set_cons_succ]
    have OM := hid hb9; have QM := hid (QM.out.trans o9)
    clear hb9 o9
    clear hs
    obtain ⟨b, hb⟩ : ∃ b, W9.heap.size = b := ⟨_, rfl⟩
    obtain ⟨W2, hW2⟩ : ∃ W2, W9.alloc (.cells #[.int .i64 0, .int .u32 0, .int .u32 0, .int .u8 0, .int .u8 0, .int .u8 0, .int .u8 0, .int .u8 0, .int .u8 0, .int .i64 0, .int .u32 0, .int .u32 0, .int .i64 0, .int .u32 0, .int .u32 0, .int .u32 0] 27) = W2 := ⟨_, rfl⟩
    have OB : Hid (Ob W2 b 27 Lm.zero.cs) := hid (by rw [← hW2, ← hb]; exact Ob.new _ _ _)
    have o2 : Only [] W9 W2 := by rw [← hW2]; exact (Only.refl [] W9).alloc _
    have HBM : Hid (b ≠ m) := hid (by have := OM.out.lt; omega)
    have HBW : Hid (w.heap.size ≤ b) := hid (by have := QM.out.size; omega)
    have OM0 := OM
    have OM := hid (OM.out.only o2 (by simp)); have QM := hid (QM.out.trans (o2.more (by simp)))
    clear o2
    go_wp2_with (first | (refine wp_lm rfl 27 _ rfl m 26 rfl _ (r_le OM0.out) Try.underlying27 rfl (by kernel_rfl) ?_; try simp only [Act.put, List.setIfInBounds_toArray, List.set_cons_zero, List.set_cons_succ]) | (refine wp_put rfl _ _ _ rfl b 0 rfl (.agg s.le.cs) rfl OB.out (by kernel_rfl) (show _ ≤ 16 from Nat.le_of_ble_eq_true rfl) (one_l _) (p_all OB.out s.le) ?_) | fail)
    intro W9 hb9 o9
    try simp only [Act.put, List.setIfInBounds_toArray, List.set_cons_zero, List.set_cons_succ]
    have OB := hid hb9; have OM := hid (OM.out.only o9 (by simpa using HBM.out.symm)); have QM := hid (QM.out.fresh o9 (fun i hi => .inr (by rw [List.mem_singleton.1 hi]; exact HBW.out)))
    clear hb9 o9 hW2 hb k6
    go_wp2_with (first | (refine wp_put rfl _ _ _ rfl m 26 rfl (.agg Lm.zero.cs) rfl OM.out (by kernel_rfl) (Nat.le_trans (show _ ≤ 43 from Nat.le_of_ble_eq_true rfl) (mcs_size _ _)) (one_l _) (p_le OM.out Lm.zero) ?_) | fail)
    intro W9 hb9 o9
    try simp only [Act.put, List.setIfInBounds_toArray, List.set_cons_zero, List.set_cons_succ]
    have OM := hid hb9; have QM := hid (QM.out.trans o9)
    have OB := hid (OB.out.only o9 (by simpa using HBM.out))
    clear hb9 o9
    go_wp2_with fail
    go_ret
    exact step_none OM.out QM.out
set_option maxRecDepth 100000 in
set_option maxHeartbeats 8000000 in
theorem hasD (w : World) (m : Nat) (T : TypeId) (tl : List Value) (s : Mc) (hO : Ob w m T (s.cs tl)) :
    Calls Try.prog 26 #[.pointer (some ⟨m, 0, none⟩)] w (fun x w' => x = .returned (.tuple #[.agg s.had.cs, .bool (decide (3 ≤ s.st))]) ∧ Only [] w w') := by
  obtain ⟨W1, hW1⟩ : ∃ W1, w.alloc (.cells #[.int .i64 0, .int .u32 0, .int .u32 0, .int .u8 0, .int .u8 0, .int .u8 0, .int .u8 0, .int .u8 0, .int .u8 0, .int .i64 0, .int .u32 0, .int .u32 0, .int .i64 0, .int .u32 0, .int .u32 0, .int .u32 0] 27) = W1 := ⟨_, rfl⟩
  have OR : Hid (Ob W1 w.heap.size 27 Lm.zero.cs) := hid (by rw [← hW1]; exact Ob.new _ _ _)
  have o1 : Only [] w W1 := by rw [← hW1]; exact (Only.refl [] w).alloc _
  have OM := hid (hO.only o1 (by simp)); have Q1 := hid o1
  have k6 := k_st OM.out
  clear hO o1
  by_cases hs : 3 ≤ s.st
  · have HH : Hid (s.had = s.le) := hid (if_pos hs)
    have HD : Hid (decide (3 ≤ s.st) = true) := hid (by simpa using hs)
    rw [HH.out, HD.out]
    go_enter Try.func26, Try.ntmps26
    go_wp2_with (first | (refine wp_lm rfl 27 _ rfl m 26 rfl s.le (r_le OM.out) Try.underlying27 rfl (by kernel_rfl) ?_; try simp only [Act.put, List.setIfInBounds_toArray, List.set_cons_zero, List.set_cons_succ]) | (refine wp_put rfl _ _ _ rfl w.heap.size 0 rfl (.agg s.le.cs) rfl OR.out (by kernel_rfl) (show _ ≤ 16 from Nat.le_of_ble_eq_true rfl) (one_l _) (p_all OR.out s.le) ?_) | fail)
    intro W9 hb9 o9
    try simp only [Act.put, List.setIfInBounds_toArray, List.set_cons_zero, List.set_cons_succ]
    have OR := hid hb9; have Q1 := hid (Q1.out.fresh o9 (fun i hi => .inr (by rw [List.mem_singleton.1 hi]; exact Nat.le_refl _)))
    clear hb9 o9 k6 hs
    go_wp2_with fail
    have r0 := l_op OR.out; have r1 := l_id OR.out; have r2 := l_yo OR.out; have r3 := l_c0 OR.out; have r4 := l_c1 OR.out; have r5 := l_c2 OR.out; have r6 := l_c3 OR.out; have r7 := l_c4 OR.out; have r8 := l_c5 OR.out; have r9 := l_ty OR.out; have r10 := l_sv OR.out; have r11 := l_ak OR.out; have r12 := l_ti OR.out; have r13 := l_ma OR.out; have r14 := l_ro OR.out; have r15 := l_re OR.out
    refine bodyPost_ret (v := .tuple #[.agg s.le.cs, .bool true]) (by simp [results, Try.results26, go_sem, *, Lm.cs, Lm.enc]) rfl ?_
    exact ⟨rfl, Q1.out⟩
  · have HH : Hid (s.had = Lm.zero) := hid (if_neg hs)
    have HD : Hid (decide (3 ≤ s.st) = false) := hid (by simpa using hs)
    rw [HH.out, HD.out]
    go_enter Try.func26, Try.ntmps26
    go_wp2_with (first | (refine wp_put rfl _ _ _ rfl w.heap.size 0 rfl (.agg Lm.zero.cs) rfl OR.out (by kernel_rfl) (show _ ≤ 16 from Nat.le_of_ble_eq_true rfl) (one_l _) (p_all OR.out Lm.zero) ?_) | fail)
    intro W9 hb9 o9
    try simp only [Act.put, List.setIfInBounds_toArray, List.set_cons_zero, List.set_cons_succ]
    have OR := hid hb9; have Q1 := hid (Q1.out.fresh o9 (fun i hi => .inr (by rw [List.mem_singleton.1 hi]; exact Nat.le_refl _)))
    clear hb9 o9 k6 hs
    go_wp2_with fail
    have r0 := l_op OR.out; have r1 := l_id OR.out; have r2 := l_yo OR.out; have r3 := l_c0 OR.out; have r4 := l_c1 OR.out; have r5 := l_c2 OR.out; have r6 := l_c3 OR.out; have r7 := l_c4 OR.out; have r8 := l_c5 OR.out; have r9 := l_ty OR.out; have r10 := l_sv OR.out; have r11 := l_ak OR.out; have r12 := l_ti OR.out; have r13 := l_ma OR.out; have r14 := l_ro OR.out; have r15 := l_re OR.out
    refine bodyPost_ret (v := .tuple #[.agg Lm.zero.cs, .bool false]) (by simp [results, Try.results26, go_sem, *, Lm.cs, Lm.enc]) rfl ?_
    exact ⟨rfl, Q1.out⟩
set_option maxRecDepth 100000 in
set_option maxHeartbeats 8000000 in
theorem bindsD (w : World) (m : Nat) (T : TypeId) (tl : List Value) (s : Mc) (l : Lm) (sv now : Int) (hO : Ob w m T (s.cs tl)) (hn : Tk now) :
    Calls Try.prog 53 #[.pointer (some ⟨m, 0, none⟩), .agg l.cs, .int .u32 sv, .int .i64 now] w (fun x w' => x = .returned (.tuple #[]) ∧ Ob w' m T ((s.bound l sv now).cs tl) ∧ Only [m] w w') := by
  have HNow := hid hn
  obtain ⟨b, hb⟩ : ∃ b, w.heap.size = b := ⟨_, rfl⟩
  obtain ⟨W1, hW1⟩ : ∃ W1, w.alloc (.cells l.cs 27) = W1 := ⟨_, rfl⟩
  have OB : Hid (Ob W1 b 27 l.cs) := hid (by rw [← hW1, ← hb]; exact Ob.new _ _ _)
  have o1 : Only [] w W1 := by rw [← hW1]; exact (Only.refl [] w).alloc _
  have OM := hid (hO.only o1 (by simp))
  have HN : Hid (m ≠ b) := hid (by have := hO.lt; omega)
  have HW : Hid (w.heap.size ≤ b) := hid (by omega)
  have QM : Hid (Only [m] w W1) := hid (o1.more (by simp))
  have HKB := hid (kept_bd l sv)
  obtain ⟨y, hy⟩ : ∃ y, (if l.ti < 2147483647 then l.ti else 2147483647) = y := ⟨_, rfl⟩
  have hy2 : (if 2147483647 < l.ti then 2147483647 else l.ti) = y := by rw [← hy]; split <;> split <;> omega
  have HY : Hid (y = min l.ti 2147483647) := hid (by rw [← hy]; split <;> omega)
  clear hO o1 hn
  by_cases hsv : l.sv = 0
  · by_cases hti : l.ti < 1
    · have e1 : (l.sv == 0) = true := by simp [hsv]
      have HSV := hid hsv; have HTI := hid hti
      clear hsv
      clear hy hy2
      have e2 := l_sv OB.out; have e3 := l_ti OB.out
      go_enter Try.func53, Try.ntmps53
      go_wp2_with (first | (refine wp_put rfl _ _ _ rfl b 10 rfl (.int .u32 sv) rfl OB.out (by kernel_rfl) (show _ ≤ 16 from Nat.le_of_ble_eq_true rfl) (one_i _ _) (q_sv OB.out sv) ?_) | fail)
      intro W9 hb9 o9
      try simp only [Act.put, List.setIfInBounds_toArray, List.set_cons_zero, List.set_cons_succ]
      have OB := hid hb9; have OM := hid (OM.out.only o9 (by simpa using HN.out)); have QM := hid (QM.out.fresh o9 (fun i hi => .inr (by rw [List.mem_singleton.1 hi]; exact HW.out)))
      clear hb9 o9
      clear e2 e3
      have e3 : W9.cell? ⟨b, 12, none⟩ = some (.int .i64 l.ti) := by have h9 := l_ti OB.out; exact h9
      go_wp2_with (first | (refine wp_put rfl _ _ _ rfl b 12 rfl (.int .i64 3600) rfl OB.out (by kernel_rfl) (show _ ≤ 16 from Nat.le_of_ble_eq_true rfl) (one_i _ _) (q_ti OB.out 3600) ?_) | fail)
      intro W9 hb9 o9
      try simp only [Act.put, List.setIfInBounds_toArray, List.set_cons_zero, List.set_cons_succ]
      have OB := hid hb9; have OM := hid (OM.out.only o9 (by simpa using HN.out)); have QM := hid (QM.out.fresh o9 (fun i hi => .inr (by rw [List.mem_singleton.1 hi]; exact HW.out)))
      clear hb9 o9
      clear e3
      have e3 : W9.cell? ⟨b, 12, none⟩ = some (.int .i64 3600) := by have h9 := l_ti OB.out; exact h9
      go_wp2_with (first | (refine wp_put rfl _ _ _ rfl b 12 rfl (.int .i64 3600) rfl OB.out (by kernel_rfl) (show _ ≤ 16 from Nat.le_of_ble_eq_true rfl) (one_i _ _) (q_ti OB.out 3600) ?_) | fail)
      intro W9 hb9 o9
      try simp only [Act.put, List.setIfInBounds_toArray, List.set_cons_zero, List.set_cons_succ]
      have OB := hid hb9; have OM := hid (OM.out.only o9 (by simpa using HN.out)); have QM := hid (QM.out.fresh o9 (fun i hi => .inr (by rw [List.mem_singleton.1 hi]; exact HW.out)))
      clear hb9 o9
      clear e1 e3 hti
      have hk : Ob W9 b 27 (l.kept sv).cs := by
        have h9 := OB.out
        unfold Lm.kept
        rw [if_pos HSV.out, if_pos (by have := HTI.out; omega)]
        exact h9
      have OB := hid hk
      clear hk
      go_wp2_with (first | (refine wp_put rfl _ _ _ rfl m 6 rfl (.int .i64 3) rfl OM.out (by kernel_rfl) (Nat.le_trans (show _ ≤ 43 from Nat.le_of_ble_eq_true rfl) (mcs_size _ _)) (one_i _ _) (p_st OM.out 3) ?_) | fail)
      intro W9 hb9 o9
      try simp only [Act.put, List.setIfInBounds_toArray, List.set_cons_zero, List.set_cons_succ]
      have OM := hid hb9; have QM := hid (QM.out.trans o9); have OB := hid (OB.out.only o9 (by simpa using fun e => HN.out e.symm))
      clear hb9 o9
      go_wp2_with (first | (refine wp_lm rfl 27 _ rfl b 0 rfl (l.kept sv) (r_all OB.out) Try.underlying27 rfl (by kernel_rfl) ?_; try simp only [Act.put, List.setIfInBounds_toArray, List.set_cons_zero, List.set_cons_succ]) | (refine wp_put rfl _ _ _ rfl m 26 rfl (.agg (l.kept sv).cs) rfl OM.out (by kernel_rfl) (Nat.le_trans (show _ ≤ 43 from Nat.le_of_ble_eq_true rfl) (mcs_size _ _)) (one_l _) (p_le OM.out (l.kept sv)) ?_) | fail)
      intro W9 hb9 o9
      try simp only [Act.put, List.setIfInBounds_toArray, List.set_cons_zero, List.set_cons_succ]
      have OM := hid hb9; have QM := hid (QM.out.trans o9); have OB := hid (OB.out.only o9 (by simpa using fun e => HN.out e.symm))
      clear hb9 o9
      go_wp2_with (first | (refine wp_put rfl _ _ _ rfl m 42 rfl (.int .i64 now) rfl OM.out (by kernel_rfl) (Nat.le_trans (show _ ≤ 43 from Nat.le_of_ble_eq_true rfl) (mcs_size _ _)) (one_i _ _) (p_be OM.out now) ?_) | fail)
      intro W9 hb9 o9
      try simp only [Act.put, List.setIfInBounds_toArray, List.set_cons_zero, List.set_cons_succ]
      have OM := hid hb9; have QM := hid (QM.out.trans o9); have OB := hid (OB.out.only o9 (by simpa using fun e => HN.out e.symm))
      clear hb9 o9
      obtain ⟨z, hz⟩ : ∃ z, (l.kept sv).ti = z := ⟨_, rfl⟩
      have HZ := hid hz
      have hzb : 1 ≤ z ∧ z ≤ 2147483647 := by rw [← hz]; exact HKB.out
      have e3 := l_ti OB.out
      rw [hz] at e3
      clear hz
      have hq0 : IntKind.i64.wrap (10 * z) = 10 * z := i64_in _ (by omega)
      have hq : IntKind.i64.wrap ((10 * z).tdiv 2) = 10 * z / 2 := by rw [Int.tdiv_eq_ediv_of_nonneg (by omega)]; exact i64_in _ (by omega)
      go_wp2_with fail
      refine (rlater _ now (10 * z / 2) (by omega) HNow.out).mono ?_
      rintro x w2 ⟨rfl, rfl⟩
      go_wp2_with (first | (refine wp_put rfl _ _ _ rfl m 8 rfl (.int .i64 (laterZ now (10 * z / 2))) rfl OM.out (by kernel_rfl) (Nat.le_trans (show _ ≤ 43 from Nat.le_of_ble_eq_true rfl) (mcs_size _ _)) (one_i _ _) (p_due OM.out (laterZ now (10 * z / 2))) ?_) | fail)
      intro W9 hb9 o9
      try simp only [Act.put, List.setIfInBounds_toArray, List.set_cons_zero, List.set_cons_succ]
      have OM := hid hb9; have QM := hid (QM.out.trans o9); have OB := hid (OB.out.only o9 (by simpa using fun e => HN.out e.symm))
      clear hb9 o9
      go_wp2_with fail
      refine bodyPost_end (results_none rfl _ _ _) rfl ?_
      refine ⟨rfl, ?_, QM.out⟩
      have h9 := OM.out
      rw [← HZ.out] at h9
      exact h9
    · have e1 : (l.sv == 0) = true := by simp [hsv]
      have HSV := hid hsv; have HTI := hid hti
      clear hsv
      have e2 := l_sv OB.out; have e3 := l_ti OB.out
      go_enter Try.func53, Try.ntmps53
      go_wp2_with (first | (refine wp_put rfl _ _ _ rfl b 10 rfl (.int .u32 sv) rfl OB.out (by kernel_rfl) (show _ ≤ 16 from Nat.le_of_ble_eq_true rfl) (one_i _ _) (q_sv OB.out sv) ?_) | fail)
      intro W9 hb9 o9
      try simp only [Act.put, List.setIfInBounds_toArray, List.set_cons_zero, List.set_cons_succ]
      have OB := hid hb9; have OM := hid (OM.out.only o9 (by simpa using HN.out)); have QM := hid (QM.out.fresh o9 (fun i hi => .inr (by rw [List.mem_singleton.1 hi]; exact HW.out)))
      clear hb9 o9
      clear e2 e3
      have e3 : W9.cell? ⟨b, 12, none⟩ = some (.int .i64 l.ti) := by have h9 := l_ti OB.out; exact h9
      go_wp2_with (first | (refine wp_put rfl _ _ _ rfl b 12 rfl (.int .i64 y) rfl OB.out (by kernel_rfl) (show _ ≤ 16 from Nat.le_of_ble_eq_true rfl) (one_i _ _) (q_ti OB.out y) ?_) | fail)
      intro W9 hb9 o9
      try simp only [Act.put, List.setIfInBounds_toArray, List.set_cons_zero, List.set_cons_succ]
      have OB := hid hb9; have OM := hid (OM.out.only o9 (by simpa using HN.out)); have QM := hid (QM.out.fresh o9 (fun i hi => .inr (by rw [List.mem_singleton.1 hi]; exact HW.out)))
      clear hb9 o9
      clear e1 e3 hti hy hy2
      have hk : Ob W9 b 27 (l.kept sv).cs := by
        have h9 := OB.out
        unfold Lm.kept
        rw [if_pos HSV.out, if_neg (by have := HTI.out; omega)]
        rw [← HY.out]
        exact h9
      have OB := hid hk
      clear hk
      go_wp2_with (first | (refine wp_put rfl _ _ _ rfl m 6 rfl (.int .i64 3) rfl OM.out (by kernel_rfl) (Nat.le_trans (show _ ≤ 43 from Nat.le_of_ble_eq_true rfl) (mcs_size _ _)) (one_i _ _) (p_st OM.out 3) ?_) | fail)
      intro W9 hb9 o9
      try simp only [Act.put, List.setIfInBounds_toArray, List.set_cons_zero, List.set_cons_succ]
      have OM := hid hb9; have QM := hid (QM.out.trans o9); have OB := hid (OB.out.only o9 (by simpa using fun e => HN.out e.symm))
      clear hb9 o9
      go_wp2_with (first | (refine wp_lm rfl 27 _ rfl b 0 rfl (l.kept sv) (r_all OB.out) Try.underlying27 rfl (by kernel_rfl) ?_; try simp only [Act.put, List.setIfInBounds_toArray, List.set_cons_zero, List.set_cons_succ]) | (refine wp_put rfl _ _ _ rfl m 26 rfl (.agg (l.kept sv).cs) rfl OM.out (by kernel_rfl) (Nat.le_trans (show _ ≤ 43 from Nat.le_of_ble_eq_true rfl) (mcs_size _ _)) (one_l _) (p_le OM.out (l.kept sv)) ?_) | fail)
      intro W9 hb9 o9
      try simp only [Act.put, List.setIfInBounds_toArray, List.set_cons_zero, List.set_cons_succ]
      have OM := hid hb9; have QM := hid (QM.out.trans o9); have OB := hid (OB.out.only o9 (by simpa using fun e => HN.out e.symm))
      clear hb9 o9
      go_wp2_with (first | (refine wp_put rfl _ _ _ rfl m 42 rfl (.int .i64 now) rfl OM.out (by kernel_rfl) (Nat.le_trans (show _ ≤ 43 from Nat.le_of_ble_eq_true rfl) (mcs_size _ _)) (one_i _ _) (p_be OM.out now) ?_) | fail)
      intro W9 hb9 o9
      try simp only [Act.put, List.setIfInBounds_toArray, List.set_cons_zero, List.set_cons_succ]
      have OM := hid hb9; have QM := hid (QM.out.trans o9); have OB := hid (OB.out.only o9 (by simpa using fun e => HN.out e.symm))
      clear hb9 o9
      obtain ⟨z, hz⟩ : ∃ z, (l.kept sv).ti = z := ⟨_, rfl⟩
      have HZ := hid hz
      have hzb : 1 ≤ z ∧ z ≤ 2147483647 := by rw [← hz]; exact HKB.out
      have e3 := l_ti OB.out
      rw [hz] at e3
      clear hz
      have hq0 : IntKind.i64.wrap (10 * z) = 10 * z := i64_in _ (by omega)
      have hq : IntKind.i64.wrap ((10 * z).tdiv 2) = 10 * z / 2 := by rw [Int.tdiv_eq_ediv_of_nonneg (by omega)]; exact i64_in _ (by omega)
      go_wp2_with fail
      refine (rlater _ now (10 * z / 2) (by omega) HNow.out).mono ?_
      rintro x w2 ⟨rfl, rfl⟩
      go_wp2_with (first | (refine wp_put rfl _ _ _ rfl m 8 rfl (.int .i64 (laterZ now (10 * z / 2))) rfl OM.out (by kernel_rfl) (Nat.le_trans (show _ ≤ 43 from Nat.le_of_ble_eq_true rfl) (mcs_size _ _)) (one_i _ _) (p_due OM.out (laterZ now (10 * z / 2))) ?_) | fail)
      intro W9 hb9 o9
      try simp only [Act.put, List.setIfInBounds_toArray, List.set_cons_zero, List.set_cons_succ]
      have OM := hid hb9; have QM := hid (QM.out.trans o9); have OB := hid (OB.out.only o9 (by simpa using fun e => HN.out e.symm))
      clear hb9 o9
      go_wp2_with fail
      refine bodyPost_end (results_none rfl _ _ _) rfl ?_
      refine ⟨rfl, ?_, QM.out⟩
      have h9 := OM.out
      rw [← HZ.out] at h9
      exact h9
  · by_cases hti : l.ti < 1
    · have e1 : (l.sv == 0) = false := by simp [hsv]
      have HSV := hid hsv; have HTI := hid hti
      clear hsv
      clear hy hy2
      have e2 := l_sv OB.out; have e3 := l_ti OB.out
      go_enter Try.func53, Try.ntmps53
      go_wp2_with (first | (refine wp_put rfl _ _ _ rfl b 12 rfl (.int .i64 3600) rfl OB.out (by kernel_rfl) (show _ ≤ 16 from Nat.le_of_ble_eq_true rfl) (one_i _ _) (q_ti OB.out 3600) ?_) | fail)
      intro W9 hb9 o9
      try simp only [Act.put, List.setIfInBounds_toArray, List.set_cons_zero, List.set_cons_succ]
      have OB := hid hb9; have OM := hid (OM.out.only o9 (by simpa using HN.out)); have QM := hid (QM.out.fresh o9 (fun i hi => .inr (by rw [List.mem_singleton.1 hi]; exact HW.out)))
      clear hb9 o9
      clear e3
      have e3 : W9.cell? ⟨b, 12, none⟩ = some (.int .i64 3600) := by have h9 := l_ti OB.out; exact h9
      go_wp2_with (first | (refine wp_put rfl _ _ _ rfl b 12 rfl (.int .i64 3600) rfl OB.out (by kernel_rfl) (show _ ≤ 16 from Nat.le_of_ble_eq_true rfl) (one_i _ _) (q_ti OB.out 3600) ?_) | fail)
      intro W9 hb9 o9
      try simp only [Act.put, List.setIfInBounds_toArray, List.set_cons_zero, List.set_cons_succ]
      have OB := hid hb9; have OM := hid (OM.out.only o9 (by simpa using HN.out)); have QM := hid (QM.out.fresh o9 (fun i hi => .inr (by rw [List.mem_singleton.1 hi]; exact HW.out)))
      clear hb9 o9
      clear e1 e3 hti
      have hk : Ob W9 b 27 (l.kept sv).cs := by
        have h9 := OB.out
        unfold Lm.kept
        rw [if_neg HSV.out, if_pos (by have := HTI.out; omega)]
        exact h9
      have OB := hid hk
      clear hk
      go_wp2_with (first | (refine wp_put rfl _ _ _ rfl m 6 rfl (.int .i64 3) rfl OM.out (by kernel_rfl) (Nat.le_trans (show _ ≤ 43 from Nat.le_of_ble_eq_true rfl) (mcs_size _ _)) (one_i _ _) (p_st OM.out 3) ?_) | fail)
      intro W9 hb9 o9
      try simp only [Act.put, List.setIfInBounds_toArray, List.set_cons_zero, List.set_cons_succ]
      have OM := hid hb9; have QM := hid (QM.out.trans o9); have OB := hid (OB.out.only o9 (by simpa using fun e => HN.out e.symm))
      clear hb9 o9
      go_wp2_with (first | (refine wp_lm rfl 27 _ rfl b 0 rfl (l.kept sv) (r_all OB.out) Try.underlying27 rfl (by kernel_rfl) ?_; try simp only [Act.put, List.setIfInBounds_toArray, List.set_cons_zero, List.set_cons_succ]) | (refine wp_put rfl _ _ _ rfl m 26 rfl (.agg (l.kept sv).cs) rfl OM.out (by kernel_rfl) (Nat.le_trans (show _ ≤ 43 from Nat.le_of_ble_eq_true rfl) (mcs_size _ _)) (one_l _) (p_le OM.out (l.kept sv)) ?_) | fail)
      intro W9 hb9 o9
      try simp only [Act.put, List.setIfInBounds_toArray, List.set_cons_zero, List.set_cons_succ]
      have OM := hid hb9; have QM := hid (QM.out.trans o9); have OB := hid (OB.out.only o9 (by simpa using fun e => HN.out e.symm))
      clear hb9 o9
      go_wp2_with (first | (refine wp_put rfl _ _ _ rfl m 42 rfl (.int .i64 now) rfl OM.out (by kernel_rfl) (Nat.le_trans (show _ ≤ 43 from Nat.le_of_ble_eq_true rfl) (mcs_size _ _)) (one_i _ _) (p_be OM.out now) ?_) | fail)
      intro W9 hb9 o9
      try simp only [Act.put, List.setIfInBounds_toArray, List.set_cons_zero, List.set_cons_succ]
      have OM := hid hb9; have QM := hid (QM.out.trans o9); have OB := hid (OB.out.only o9 (by simpa using fun e => HN.out e.symm))
      clear hb9 o9
      obtain ⟨z, hz⟩ : ∃ z, (l.kept sv).ti = z := ⟨_, rfl⟩
      have HZ := hid hz
      have hzb : 1 ≤ z ∧ z ≤ 2147483647 := by rw [← hz]; exact HKB.out
      have e3 := l_ti OB.out
      rw [hz] at e3
      clear hz
      have hq0 : IntKind.i64.wrap (10 * z) = 10 * z := i64_in _ (by omega)
      have hq : IntKind.i64.wrap ((10 * z).tdiv 2) = 10 * z / 2 := by rw [Int.tdiv_eq_ediv_of_nonneg (by omega)]; exact i64_in _ (by omega)
      go_wp2_with fail
      refine (rlater _ now (10 * z / 2) (by omega) HNow.out).mono ?_
      rintro x w2 ⟨rfl, rfl⟩
      go_wp2_with (first | (refine wp_put rfl _ _ _ rfl m 8 rfl (.int .i64 (laterZ now (10 * z / 2))) rfl OM.out (by kernel_rfl) (Nat.le_trans (show _ ≤ 43 from Nat.le_of_ble_eq_true rfl) (mcs_size _ _)) (one_i _ _) (p_due OM.out (laterZ now (10 * z / 2))) ?_) | fail)
      intro W9 hb9 o9
      try simp only [Act.put, List.setIfInBounds_toArray, List.set_cons_zero, List.set_cons_succ]
      have OM := hid hb9; have QM := hid (QM.out.trans o9); have OB := hid (OB.out.only o9 (by simpa using fun e => HN.out e.symm))
      clear hb9 o9
      go_wp2_with fail
      refine bodyPost_end (results_none rfl _ _ _) rfl ?_
      refine ⟨rfl, ?_, QM.out⟩
      have h9 := OM.out
      rw [← HZ.out] at h9
      exact h9
    · have e1 : (l.sv == 0) = false := by simp [hsv]
      have HSV := hid hsv; have HTI := hid hti
      clear hsv
      have e2 := l_sv OB.out; have e3 := l_ti OB.out
      go_enter Try.func53, Try.ntmps53
      go_wp2_with (first | (refine wp_put rfl _ _ _ rfl b 12 rfl (.int .i64 y) rfl OB.out (by kernel_rfl) (show _ ≤ 16 from Nat.le_of_ble_eq_true rfl) (one_i _ _) (q_ti OB.out y) ?_) | fail)
      intro W9 hb9 o9
      try simp only [Act.put, List.setIfInBounds_toArray, List.set_cons_zero, List.set_cons_succ]
      have OB := hid hb9; have OM := hid (OM.out.only o9 (by simpa using HN.out)); have QM := hid (QM.out.fresh o9 (fun i hi => .inr (by rw [List.mem_singleton.1 hi]; exact HW.out)))
      clear hb9 o9
      clear e1 e3 hti hy hy2
      have hk : Ob W9 b 27 (l.kept sv).cs := by
        have h9 := OB.out
        unfold Lm.kept
        rw [if_neg HSV.out, if_neg (by have := HTI.out; omega)]
        rw [← HY.out]
        exact h9
      have OB := hid hk
      clear hk
      go_wp2_with (first | (refine wp_put rfl _ _ _ rfl m 6 rfl (.int .i64 3) rfl OM.out (by kernel_rfl) (Nat.le_trans (show _ ≤ 43 from Nat.le_of_ble_eq_true rfl) (mcs_size _ _)) (one_i _ _) (p_st OM.out 3) ?_) | fail)
      intro W9 hb9 o9
      try simp only [Act.put, List.setIfInBounds_toArray, List.set_cons_zero, List.set_cons_succ]
      have OM := hid hb9; have QM := hid (QM.out.trans o9); have OB := hid (OB.out.only o9 (by simpa using fun e => HN.out e.symm))
      clear hb9 o9
      go_wp2_with (first | (refine wp_lm rfl 27 _ rfl b 0 rfl (l.kept sv) (r_all OB.out) Try.underlying27 rfl (by kernel_rfl) ?_; try simp only [Act.put, List.setIfInBounds_toArray, List.set_cons_zero, List.set_cons_succ]) | (refine wp_put rfl _ _ _ rfl m 26 rfl (.agg (l.kept sv).cs) rfl OM.out (by kernel_rfl) (Nat.le_trans (show _ ≤ 43 from Nat.le_of_ble_eq_true rfl) (mcs_size _ _)) (one_l _) (p_le OM.out (l.kept sv)) ?_) | fail)
      intro W9 hb9 o9
      try simp only [Act.put, List.setIfInBounds_toArray, List.set_cons_zero, List.set_cons_succ]
      have OM := hid hb9; have QM := hid (QM.out.trans o9); have OB := hid (OB.out.only o9 (by simpa using fun e => HN.out e.symm))
      clear hb9 o9
      go_wp2_with (first | (refine wp_put rfl _ _ _ rfl m 42 rfl (.int .i64 now) rfl OM.out (by kernel_rfl) (Nat.le_trans (show _ ≤ 43 from Nat.le_of_ble_eq_true rfl) (mcs_size _ _)) (one_i _ _) (p_be OM.out now) ?_) | fail)
      intro W9 hb9 o9
      try simp only [Act.put, List.setIfInBounds_toArray, List.set_cons_zero, List.set_cons_succ]
      have OM := hid hb9; have QM := hid (QM.out.trans o9); have OB := hid (OB.out.only o9 (by simpa using fun e => HN.out e.symm))
      clear hb9 o9
      obtain ⟨z, hz⟩ : ∃ z, (l.kept sv).ti = z := ⟨_, rfl⟩
      have HZ := hid hz
      have hzb : 1 ≤ z ∧ z ≤ 2147483647 := by rw [← hz]; exact HKB.out
      have e3 := l_ti OB.out
      rw [hz] at e3
      clear hz
      have hq0 : IntKind.i64.wrap (10 * z) = 10 * z := i64_in _ (by omega)
      have hq : IntKind.i64.wrap ((10 * z).tdiv 2) = 10 * z / 2 := by rw [Int.tdiv_eq_ediv_of_nonneg (by omega)]; exact i64_in _ (by omega)
      go_wp2_with fail
      refine (rlater _ now (10 * z / 2) (by omega) HNow.out).mono ?_
      rintro x w2 ⟨rfl, rfl⟩
      go_wp2_with (first | (refine wp_put rfl _ _ _ rfl m 8 rfl (.int .i64 (laterZ now (10 * z / 2))) rfl OM.out (by kernel_rfl) (Nat.le_trans (show _ ≤ 43 from Nat.le_of_ble_eq_true rfl) (mcs_size _ _)) (one_i _ _) (p_due OM.out (laterZ now (10 * z / 2))) ?_) | fail)
      intro W9 hb9 o9
      try simp only [Act.put, List.setIfInBounds_toArray, List.set_cons_zero, List.set_cons_succ]
      have OM := hid hb9; have QM := hid (QM.out.trans o9); have OB := hid (OB.out.only o9 (by simpa using fun e => HN.out e.symm))
      clear hb9 o9
      go_wp2_with fail
      refine bodyPost_end (results_none rfl _ _ _) rfl ?_
      refine ⟨rfl, ?_, QM.out⟩
      have h9 := OM.out
      rw [← HZ.out] at h9
      exact h9
end Go.Proofs.Ytdpmjghdmpaehaa.lp
/-
  Chapter 23 (lease): the document's client: Hear of what is not for it, and of offers, by a walk of its text. Conditions: none but those typed.
-/
namespace Go.Proofs.Ytdpmjghdmpaehaa.lp
set_option linter.unusedVariables false
set_option linter.unusedSimpArgs false
open Go.ChangeShapes Go.WideShapes Go.ChangeAt Go.RowKit Go.IntWalk Go.Lib
set_option maxRecDepth 100000 in
set_option maxHeartbeats 8000000 in
theorem hearDNo (w : World) (m : Nat) (T : TypeId) (tl : List Value) (s : Mc) (l : Lm) (now draw : Int) (hO : Ob w m T (s.cs tl)) (hn : Tk now) (hno : ¬ (l.op = 2 ∧ l.id = s.id ∧ macEq l s = true)) :
    Calls Try.prog 20 #[.pointer (some ⟨m, 0, none⟩), .agg l.cs, .int .i64 now, .int .i64 draw] w (StepE m T tl s [] w) := by
  obtain ⟨b, hb⟩ : ∃ b, w.heap.size = b := ⟨_, rfl⟩
  obtain ⟨W1, hW1⟩ : ∃ W1, w.alloc (.cells l.cs 27) = W1 := ⟨_, rfl⟩
  have OB : Hid (Ob W1 b 27 l.cs) := hid (by rw [← hW1, ← hb]; exact Ob.new _ _ _)
  have o1 : Only [] w W1 := by rw [← hW1]; exact (Only.refl [] w).alloc _
  have OM := hid (hO.only o1 (by simp))
  have HN : Hid (m ≠ b) := hid (by have := hO.lt; omega)
  have HBM : Hid (b ∉ [m]) := hid (by have := hO.lt; simp; omega)
  have QM : Hid (Only [m] w W1) := hid (o1.more (by simp))
  have HNow := hid hn
  clear hO o1 hn
  by_cases h1 : l.op = 2
  · have e1 : (l.op != 2) = false := by simp [h1]
    by_cases h2 : l.id = s.id
    · have e2 : (l.id != s.id) = false := by simp [h2]
      have HMQ : Hid (decide (l.c0 = s.c0 ∧ l.c1 = s.c1 ∧ l.c2 = s.c2 ∧ l.c3 = s.c3 ∧ l.c4 = s.c4 ∧ l.c5 = s.c5) = false) := hid (by
        cases hq : macEq l s with
        | false => exact hq
        | true => exact absurd ⟨h1, h2, hq⟩ hno)
      clear h1 h2 hno
      go_enter Try.func20, Try.ntmps20
      go_wp2_with fail
      refine wp_region_noPanic ?_
      refine rgn.regionT (R := Only []) (by kernel_rfl) (Only.refl []) (fun _ _ _ => Only.trans) (fun _ _ _ _ _ h => h) (.y 0 (.y 1 (.y 2 (.y 3 (.y 4 (.y 5 (.y 6 (.y 7 (.y 8 (.y 9 (.y 10 (.y 11 (.y 12 (.y 13 (.y 14 (.y 15 (.y 16 (.y 17 (.y 18 (.y 19 (.y 20 .z))))))))))))))))))))) (by kernel_rfl) (fun W hWd => ?_)
      have HWd := hid hWd; clear hWd
      have q8 : Only [] W1 W := Only.eq_drew (Only.refl [] _) HWd.out
      have OM := hid (OM.out.only q8 (by simp)); have OB := hid (OB.out.only q8 (by simp)); have QM := hid (QM.out.trans (q8.more (by simp)))
      clear q8 HWd
      refine rgn.Walk.ys (v := ?_) rfl rfl rfl ?_ ?_
      rotate_left 1
      · intro W' hW'
        go_simp
        try with_reducible rfl
      try simp only [Act.put, List.setIfInBounds_toArray, List.set_cons_zero, List.set_cons_succ]
      refine rgn.Walk.ys (v := ?_) rfl rfl rfl ?_ ?_
      rotate_left 1
      · intro W' hW'
        have q0 := l_op (OB.out.only hW' (by simp))
        go_simp
        try with_reducible rfl
      try simp only [Act.put, List.setIfInBounds_toArray, List.set_cons_zero, List.set_cons_succ]
      refine rgn.Walk.ys (v := ?_) rfl rfl rfl ?_ ?_
      rotate_left 1
      · intro W' hW'
        go_simp
        try with_reducible rfl
      try simp only [Act.put, List.setIfInBounds_toArray, List.set_cons_zero, List.set_cons_succ]
      refine rgn.Walk.ys (v := ?_) rfl rfl rfl ?_ ?_
      rotate_left 1
      · intro W' hW'
        go_simp
        try with_reducible rfl
      try simp only [Act.put, List.setIfInBounds_toArray, List.set_cons_zero, List.set_cons_succ]
      refine rgn.Walk.ys (v := ?_) rfl rfl rfl ?_ ?_
      rotate_left 1
      · intro W' hW'
        go_simp
        try with_reducible rfl
      try simp only [Act.put, List.setIfInBounds_toArray, List.set_cons_zero, List.set_cons_succ]
      refine rgn.Walk.ys (v := ?_) rfl rfl rfl ?_ ?_
      rotate_left 1
      · intro W' hW'
        have q0 := l_id (OB.out.only hW' (by simp))
        go_simp
        try with_reducible rfl
      try simp only [Act.put, List.setIfInBounds_toArray, List.set_cons_zero, List.set_cons_succ]
      refine rgn.Walk.ys (v := ?_) rfl rfl rfl ?_ ?_
      rotate_left 1
      · intro W' hW'
        go_simp
        try with_reducible rfl
      try simp only [Act.put, List.setIfInBounds_toArray, List.set_cons_zero, List.set_cons_succ]
      refine rgn.Walk.ys (v := ?_) rfl rfl rfl ?_ ?_
      rotate_left 1
      · intro W' hW'
        go_simp
        try with_reducible rfl
      try simp only [Act.put, List.setIfInBounds_toArray, List.set_cons_zero, List.set_cons_succ]
      refine rgn.Walk.ys (v := ?_) rfl rfl rfl ?_ ?_
      rotate_left 1
      · intro W' hW'
        go_simp
        try with_reducible rfl
      try simp only [Act.put, List.setIfInBounds_toArray, List.set_cons_zero, List.set_cons_succ]
      refine rgn.Walk.ys (v := ?_) rfl rfl rfl ?_ ?_
      rotate_left 1
      · intro W' hW'
        have q0 := k_id (OM.out.only hW' (by simp))
        go_simp
        try with_reducible rfl
      try simp only [Act.put, List.setIfInBounds_toArray, List.set_cons_zero, List.set_cons_succ]
      refine rgn.Walk.ys (v := ?_) rfl rfl rfl ?_ ?_
      rotate_left 1
      · intro W' hW'
        go_simp
        try with_reducible rfl
      try simp only [Act.put, List.setIfInBounds_toArray, List.set_cons_zero, List.set_cons_succ]
      refine rgn.Walk.ys (v := ?_) rfl rfl rfl ?_ ?_
      rotate_left 1
      · intro W' hW'
        go_simp
        try with_reducible rfl
      try simp only [Act.put, List.setIfInBounds_toArray, List.set_cons_zero, List.set_cons_succ]
      refine rgn.Walk.ys (v := ?_) rfl rfl rfl ?_ ?_
      rotate_left 1
      · intro W' hW'
        go_simp
        try with_reducible rfl
      try simp only [Act.put, List.setIfInBounds_toArray, List.set_cons_zero, List.set_cons_succ]
      refine rgn.Walk.ys (v := ?_) rfl rfl rfl ?_ ?_
      rotate_left 1
      · intro W' hW'
        go_simp
        try with_reducible rfl
      try simp only [Act.put, List.setIfInBounds_toArray, List.set_cons_zero, List.set_cons_succ]
      refine rgn.Walk.ys rfl rfl rfl (fun W' hW' => exec_mac _ _ rfl b 3 rfl _ _ _ _ _ _ (r_lmac (OB.out.only hW' (by simp))) Try.underlying25 rfl (by kernel_rfl)) ?_
      try simp only [Act.put, List.setIfInBounds_toArray, List.set_cons_zero, List.set_cons_succ]
      refine rgn.Walk.ys (v := ?_) rfl rfl rfl ?_ ?_
      rotate_left 1
      · intro W' hW'
        go_simp
        try with_reducible rfl
      try simp only [Act.put, List.setIfInBounds_toArray, List.set_cons_zero, List.set_cons_succ]
      refine rgn.Walk.ys (v := ?_) rfl rfl rfl ?_ ?_
      rotate_left 1
      · intro W' hW'
        go_simp
        try with_reducible rfl
      try simp only [Act.put, List.setIfInBounds_toArray, List.set_cons_zero, List.set_cons_succ]
      refine rgn.Walk.ys (v := ?_) rfl rfl rfl ?_ ?_
      rotate_left 1
      · intro W' hW'
        go_simp
        try with_reducible rfl
      try simp only [Act.put, List.setIfInBounds_toArray, List.set_cons_zero, List.set_cons_succ]
      refine rgn.Walk.ys rfl rfl rfl (fun W' hW' => exec_mac _ _ rfl m 0 rfl _ _ _ _ _ _ (r_mac (OM.out.only hW' (by simp))) Try.underlying25 rfl (by kernel_rfl)) ?_
      try simp only [Act.put, List.setIfInBounds_toArray, List.set_cons_zero, List.set_cons_succ]
      refine rgn.Walk.ys (v := ?_) rfl rfl rfl ?_ ?_
      rotate_left 1
      · intro W' hW'
        have q7 := ev.eqMacD 9998 l.c0 l.c1 l.c2 l.c3 l.c4 l.c5 s.c0 s.c1 s.c2 s.c3 s.c4 s.c5 W'
        rw [HMQ.out] at q7
        go_simp
        try with_reducible rfl
      try simp only [Act.put, List.setIfInBounds_toArray, List.set_cons_zero, List.set_cons_succ]
      refine rgn.Walk.ys (v := ?_) rfl rfl rfl ?_ ?_
      rotate_left 1
      · intro W' hW'
        go_simp
        try with_reducible rfl
      try simp only [Act.put, List.setIfInBounds_toArray, List.set_cons_zero, List.set_cons_succ]
      refine rgn.Walk.zs (NoPanic.normal ?_)
      go_wp2_with fail
      go_ret
      exact step_none OM.out QM.out
    · have e2 : (l.id != s.id) = true := by simp [h2]
      clear h1 h2 hno
      go_enter Try.func20, Try.ntmps20
      go_wp2_with fail
      refine wp_region_noPanic ?_
      refine rgn.regionT (R := Only []) (by kernel_rfl) (Only.refl []) (fun _ _ _ => Only.trans) (fun _ _ _ _ _ h => h) (.y 0 (.y 1 (.y 2 (.y 3 (.y 4 (.y 5 (.y 6 (.y 7 (.y 8 (.y 9 (.y 10 (.y 11 (.y 12 (.y 13 (.y 14 (.y 15 (.y 16 (.y 17 (.y 18 (.y 19 (.y 20 .z))))))))))))))))))))) (by kernel_rfl) (fun W hWd => ?_)
      have HWd := hid hWd; clear hWd
      have q8 : Only [] W1 W := Only.eq_drew (Only.refl [] _) HWd.out
      have OM := hid (OM.out.only q8 (by simp)); have OB := hid (OB.out.only q8 (by simp)); have QM := hid (QM.out.trans (q8.more (by simp)))
      clear q8 HWd
      refine rgn.Walk.ys (v := ?_) rfl rfl rfl ?_ ?_
      rotate_left 1
      · intro W' hW'
        go_simp
        try with_reducible rfl
      try simp only [Act.put, List.setIfInBounds_toArray, List.set_cons_zero, List.set_cons_succ]
      refine rgn.Walk.ys (v := ?_) rfl rfl rfl ?_ ?_
      rotate_left 1
      · intro W' hW'
        have q0 := l_op (OB.out.only hW' (by simp))
        go_simp
        try with_reducible rfl
      try simp only [Act.put, List.setIfInBounds_toArray, List.set_cons_zero, List.set_cons_succ]
      refine rgn.Walk.ys (v := ?_) rfl rfl rfl ?_ ?_
      rotate_left 1
      · intro W' hW'
        go_simp
        try with_reducible rfl
      try simp only [Act.put, List.setIfInBounds_toArray, List.set_cons_zero, List.set_cons_succ]
      refine rgn.Walk.ys (v := ?_) rfl rfl rfl ?_ ?_
      rotate_left 1
      · intro W' hW'
        go_simp
        try with_reducible rfl
      try simp only [Act.put, List.setIfInBounds_toArray, List.set_cons_zero, List.set_cons_succ]
      refine rgn.Walk.ys (v := ?_) rfl rfl rfl ?_ ?_
      rotate_left 1
      · intro W' hW'
        go_simp
        try with_reducible rfl
      try simp only [Act.put, List.setIfInBounds_toArray, List.set_cons_zero, List.set_cons_succ]
      refine rgn.Walk.ys (v := ?_) rfl rfl rfl ?_ ?_
      rotate_left 1
      · intro W' hW'
        have q0 := l_id (OB.out.only hW' (by simp))
        go_simp
        try with_reducible rfl
      try simp only [Act.put, List.setIfInBounds_toArray, List.set_cons_zero, List.set_cons_succ]
      refine rgn.Walk.ys (v := ?_) rfl rfl rfl ?_ ?_
      rotate_left 1
      · intro W' hW'
        go_simp
        try with_reducible rfl
      try simp only [Act.put, List.setIfInBounds_toArray, List.set_cons_zero, List.set_cons_succ]
      refine rgn.Walk.ys (v := ?_) rfl rfl rfl ?_ ?_
      rotate_left 1
      · intro W' hW'
        go_simp
        try with_reducible rfl
      try simp only [Act.put, List.setIfInBounds_toArray, List.set_cons_zero, List.set_cons_succ]
      refine rgn.Walk.ys (v := ?_) rfl rfl rfl ?_ ?_
      rotate_left 1
      · intro W' hW'
        go_simp
        try with_reducible rfl
      try simp only [Act.put, List.setIfInBounds_toArray, List.set_cons_zero, List.set_cons_succ]
      refine rgn.Walk.ys (v := ?_) rfl rfl rfl ?_ ?_
      rotate_left 1
      · intro W' hW'
        have q0 := k_id (OM.out.only hW' (by simp))
        go_simp
        try with_reducible rfl
      try simp only [Act.put, List.setIfInBounds_toArray, List.set_cons_zero, List.set_cons_succ]
      refine rgn.Walk.ys (v := ?_) rfl rfl rfl ?_ ?_
      rotate_left 1
      · intro W' hW'
        go_simp
        try with_reducible rfl
      try simp only [Act.put, List.setIfInBounds_toArray, List.set_cons_zero, List.set_cons_succ]
      refine rgn.Walk.ys (v := ?_) rfl rfl rfl ?_ ?_
      rotate_left 1
      · intro W' hW'
        go_simp
        try with_reducible rfl
      try simp only [Act.put, List.setIfInBounds_toArray, List.set_cons_zero, List.set_cons_succ]
      refine rgn.Walk.ys (v := ?_) rfl rfl rfl ?_ ?_
      rotate_left 1
      · intro W' hW'
        go_simp
        try with_reducible rfl
      try simp only [Act.put, List.setIfInBounds_toArray, List.set_cons_zero, List.set_cons_succ]
      refine rgn.Walk.yn rfl rfl rfl ?_
      try simp only [Act.put, List.setIfInBounds_toArray, List.set_cons_zero, List.set_cons_succ]
      refine rgn.Walk.yn rfl rfl rfl ?_
      try simp only [Act.put, List.setIfInBounds_toArray, List.set_cons_zero, List.set_cons_succ]
      refine rgn.Walk.yn rfl rfl rfl ?_
      try simp only [Act.put, List.setIfInBounds_toArray, List.set_cons_zero, List.set_cons_succ]
      refine rgn.Walk.yn rfl rfl rfl ?_
      try simp only [Act.put, List.setIfInBounds_toArray, List.set_cons_zero, List.set_cons_succ]
      refine rgn.Walk.yn rfl rfl rfl ?_
      try simp only [Act.put, List.setIfInBounds_toArray, List.set_cons_zero, List.set_cons_succ]
      refine rgn.Walk.yn rfl rfl rfl ?_
      try simp only [Act.put, List.setIfInBounds_toArray, List.set_cons_zero, List.set_cons_succ]
      refine rgn.Walk.yn rfl rfl rfl ?_
      try simp only [Act.put, List.setIfInBounds_toArray, List.set_cons_zero, List.set_cons_succ]
      refine rgn.Walk.ys (v := ?_) rfl rfl rfl ?_ ?_
      rotate_left 1
      · intro W' hW'
        go_simp
        try with_reducible rfl
      try simp only [Act.put, List.setIfInBounds_toArray, List.set_cons_zero, List.set_cons_succ]
      refine rgn.Walk.zs (NoPanic.normal ?_)
      go_wp2_with fail
      go_ret
      exact step_none OM.out QM.out
  · have e1 : (l.op != 2) = true := by simp [h1]
    clear h1 hno
    go_enter Try.func20, Try.ntmps20
    go_wp2_with fail
    refine wp_region_noPanic ?_
    refine rgn.regionT (R := Only []) (by kernel_rfl) (Only.refl []) (fun _ _ _ => Only.trans) (fun _ _ _ _ _ h => h) (.y 0 (.y 1 (.y 2 (.y 3 (.y 4 (.y 5 (.y 6 (.y 7 (.y 8 (.y 9 (.y 10 (.y 11 (.y 12 (.y 13 (.y 14 (.y 15 (.y 16 (.y 17 (.y 18 (.y 19 (.y 20 .z))))))))))))))))))))) (by kernel_rfl) (fun W hWd => ?_)
    have HWd := hid hWd; clear hWd
    have q8 : Only [] W1 W := Only.eq_drew (Only.refl [] _) HWd.out
    have OM := hid (OM.out.only q8 (by simp)); have OB := hid (OB.out.only q8 (by simp)); have QM := hid (QM.out.trans (q8.more (by simp)))
    clear q8 HWd
    refine rgn.Walk.ys (v := ?_) rfl rfl rfl ?_ ?_
    rotate_left 1
    · intro W' hW'
      go_simp
      try with_reducible rfl
    try simp only [Act.put, List.setIfInBounds_toArray, List.set_cons_zero, List.set_cons_succ]
    refine rgn.Walk.ys (v := ?_) rfl rfl rfl ?_ ?_
    rotate_left 1
    · intro W' hW'
      have q0 := l_op (OB.out.only hW' (by simp))
      go_simp
      try with_reducible rfl
    try simp only [Act.put, List.setIfInBounds_toArray, List.set_cons_zero, List.set_cons_succ]
    refine rgn.Walk.ys (v := ?_) rfl rfl rfl ?_ ?_
    rotate_left 1
    · intro W' hW'
      go_simp
      try with_reducible rfl
    try simp only [Act.put, List.setIfInBounds_toArray, List.set_cons_zero, List.set_cons_succ]
    refine rgn.Walk.ys (v := ?_) rfl rfl rfl ?_ ?_
    rotate_left 1
    · intro W' hW'
      go_simp
      try with_reducible rfl
    try simp only [Act.put, List.setIfInBounds_toArray, List.set_cons_zero, List.set_cons_succ]
    refine rgn.Walk.yn rfl rfl rfl ?_
    try simp only [Act.put, List.setIfInBounds_toArray, List.set_cons_zero, List.set_cons_succ]
    refine rgn.Walk.yn rfl rfl rfl ?_
    try simp only [Act.put, List.setIfInBounds_toArray, List.set_cons_zero, List.set_cons_succ]
    refine rgn.Walk.yn rfl rfl rfl ?_
    try simp only [Act.put, List.setIfInBounds_toArray, List.set_cons_zero, List.set_cons_succ]
    refine rgn.Walk.yn rfl rfl rfl ?_
    try simp only [Act.put, List.setIfInBounds_toArray, List.set_cons_zero, List.set_cons_succ]
    refine rgn.Walk.yn rfl rfl rfl ?_
    try simp only [Act.put, List.setIfInBounds_toArray, List.set_cons_zero, List.set_cons_succ]
    refine rgn.Walk.yn rfl rfl rfl ?_
    try simp only [Act.put, List.setIfInBounds_toArray, List.set_cons_zero, List.set_cons_succ]
    refine rgn.Walk.yn rfl rfl rfl ?_
    try simp only [Act.put, List.setIfInBounds_toArray, List.set_cons_zero, List.set_cons_succ]
    refine rgn.Walk.ys (v := ?_) rfl rfl rfl ?_ ?_
    rotate_left 1
    · intro W' hW'
      go_simp
      try with_reducible rfl
    try simp only [Act.put, List.setIfInBounds_toArray, List.set_cons_zero, List.set_cons_succ]
    refine rgn.Walk.ys (v := ?_) rfl rfl rfl ?_ ?_
    rotate_left 1
    · intro W' hW'
      go_simp
      try with_reducible rfl
    try simp only [Act.put, List.setIfInBounds_toArray, List.set_cons_zero, List.set_cons_succ]
    refine rgn.Walk.yn rfl rfl rfl ?_
    try simp only [Act.put, List.setIfInBounds_toArray, List.set_cons_zero, List.set_cons_succ]
    refine rgn.Walk.yn rfl rfl rfl ?_
    try simp only [Act.put, List.setIfInBounds_toArray, List.set_cons_zero, List.set_cons_succ]
    refine rgn.Walk.yn rfl rfl rfl ?_
    try simp only [Act.put, List.setIfInBounds_toArray, List.set_cons_zero, List.set_cons_succ]
    refine rgn.Walk.yn rfl rfl rfl ?_
    try simp only [Act.put, List.setIfInBounds_toArray, List.set_cons_zero, List.set_cons_succ]
    refine rgn.Walk.yn rfl rfl rfl ?_
    try simp only [Act.put, List.setIfInBounds_toArray, List.set_cons_zero, List.set_cons_succ]
    refine rgn.Walk.yn rfl rfl rfl ?_
    try simp only [Act.put, List.setIfInBounds_toArray, List.set_cons_zero, List.set_cons_succ]
    refine rgn.Walk.yn rfl rfl rfl ?_
    try simp only [Act.put, List.setIfInBounds_toArray, List.set_cons_zero, List.set_cons_succ]
    refine rgn.Walk.ys (v := ?_) rfl rfl rfl ?_ ?_
    rotate_left 1
    · intro W' hW'
      go_simp
      try with_reducible rfl
    try simp only [Act.put, List.setIfInBounds_toArray, List.set_cons_zero, List.set_cons_succ]
    refine rgn.Walk.zs (NoPanic.normal ?_)
    go_wp2_with fail
    go_ret
    exact step_none OM.out QM.out
set_option maxRecDepth 100000 in
set_option maxHeartbeats 8000000 in
theorem hearD0 (w : World) (m : Nat) (T : TypeId) (tl : List Value) (s : Mc) (l : Lm) (now draw : Int) (hO : Ob w m T (s.cs tl)) (hn : Tk now) (h1 : l.op = 2) (h2 : l.id = s.id) (h3 : macEq l s = true) (hs : s.st = 0 ∨ s.st = 3) :
    Calls Try.prog 20 #[.pointer (some ⟨m, 0, none⟩), .agg l.cs, .int .i64 now, .int .i64 draw] w (StepE m T tl s [] w) := by
  obtain ⟨b, hb⟩ : ∃ b, w.heap.size = b := ⟨_, rfl⟩
  obtain ⟨W1, hW1⟩ : ∃ W1, w.alloc (.cells l.cs 27) = W1 := ⟨_, rfl⟩
  have OB : Hid (Ob W1 b 27 l.cs) := hid (by rw [← hW1, ← hb]; exact Ob.new _ _ _)
  have o1 : Only [] w W1 := by rw [← hW1]; exact (Only.refl [] w).alloc _
  have OM := hid (hO.only o1 (by simp))
  have HN : Hid (m ≠ b) := hid (by have := hO.lt; omega)
  have HBM : Hid (b ∉ [m]) := hid (by have := hO.lt; simp; omega)
  have QM : Hid (Only [m] w W1) := hid (o1.more (by simp))
  have HNow := hid hn
  clear hO o1 hn
  have e1 : (l.op != 2) = false := by simp [h1]
  have e2 : (l.id != s.id) = false := by simp [h2]
  have HMQ : Hid (decide (l.c0 = s.c0 ∧ l.c1 = s.c1 ∧ l.c2 = s.c2 ∧ l.c3 = s.c3 ∧ l.c4 = s.c4 ∧ l.c5 = s.c5) = true) := hid h3
  clear h1 h2 h3
  have f1 : (s.st == 1) = false := by rcases hs with h | h <;> simp [h]
  have f2 : (s.st == 2) = false := by rcases hs with h | h <;> simp [h]
  have f4 : (s.st == 4) = false := by rcases hs with h | h <;> simp [h]
  have f5 : (s.st == 5) = false := by rcases hs with h | h <;> simp [h]
  clear hs
  go_enter Try.func20, Try.ntmps20
  go_wp2_with fail
  refine wp_region_noPanic ?_
  refine rgn.regionT (R := Only []) (by kernel_rfl) (Only.refl []) (fun _ _ _ => Only.trans) (fun _ _ _ _ _ h => h) (.y 0 (.y 1 (.y 2 (.y 3 (.y 4 (.y 5 (.y 6 (.y 7 (.y 8 (.y 9 (.y 10 (.y 11 (.y 12 (.y 13 (.y 14 (.y 15 (.y 16 (.y 17 (.y 18 (.y 19 (.y 20 .z))))))))))))))))))))) (by kernel_rfl) (fun W hWd => ?_)
  have HWd := hid hWd; clear hWd
  have q8 : Only [] W1 W := Only.eq_drew (Only.refl [] _) HWd.out
  have OM := hid (OM.out.only q8 (by simp)); have OB := hid (OB.out.only q8 (by simp)); have QM := hid (QM.out.trans (q8.more (by simp)))
  clear q8 HWd
  refine rgn.Walk.ys (v := ?_) rfl rfl rfl ?_ ?_
  rotate_left 1
  · intro W' hW'
    go_simp
    try with_reducible rfl
  try simp only [Act.put, List.setIfInBounds_toArray, List.set_cons_zero, List.set_cons_succ]
  refine rgn.Walk.ys (v := ?_) rfl rfl rfl ?_ ?_
  rotate_left 1
  · intro W' hW'
    have q0 := l_op (OB.out.only hW' (by simp))
    go_simp
    try with_reducible rfl
  try simp only [Act.put, List.setIfInBounds_toArray, List.set_cons_zero, List.set_cons_succ]
  refine rgn.Walk.ys (v := ?_) rfl rfl rfl ?_ ?_
  rotate_left 1
  · intro W' hW'
    go_simp
    try with_reducible rfl
  try simp only [Act.put, List.setIfInBounds_toArray, List.set_cons_zero, List.set_cons_succ]
  refine rgn.Walk.ys (v := ?_) rfl rfl rfl ?_ ?_
  rotate_left 1
  · intro W' hW'
    go_simp
    try with_reducible rfl
  try simp only [Act.put, List.setIfInBounds_toArray, List.set_cons_zero, List.set_cons_succ]
  refine rgn.Walk.ys (v := ?_) rfl rfl rfl ?_ ?_
  rotate_left 1
  · intro W' hW'
    go_simp
    try with_reducible rfl
  try simp only [Act.put, List.setIfInBounds_toArray, List.set_cons_zero, List.set_cons_succ]
  refine rgn.Walk.ys (v := ?_) rfl rfl rfl ?_ ?_
  rotate_left 1
  · intro W' hW'
    have q0 := l_id (OB.out.only hW' (by simp))
    go_simp
    try with_reducible rfl
  try simp only [Act.put, List.setIfInBounds_toArray, List.set_cons_zero, List.set_cons_succ]
  refine rgn.Walk.ys (v := ?_) rfl rfl rfl ?_ ?_
  rotate_left 1
  · intro W' hW'
    go_simp
    try with_reducible rfl
  try simp only [Act.put, List.setIfInBounds_toArray, List.set_cons_zero, List.set_cons_succ]
  refine rgn.Walk.ys (v := ?_) rfl rfl rfl ?_ ?_
  rotate_left 1
  · intro W' hW'
    go_simp
    try with_reducible rfl
  try simp only [Act.put, List.setIfInBounds_toArray, List.set_cons_zero, List.set_cons_succ]
  refine rgn.Walk.ys (v := ?_) rfl rfl rfl ?_ ?_
  rotate_left 1
  · intro W' hW'
    go_simp
    try with_reducible rfl
  try simp only [Act.put, List.setIfInBounds_toArray, List.set_cons_zero, List.set_cons_succ]
  refine rgn.Walk.ys (v := ?_) rfl rfl rfl ?_ ?_
  rotate_left 1
  · intro W' hW'
    have q0 := k_id (OM.out.only hW' (by simp))
    go_simp
    try with_reducible rfl
  try simp only [Act.put, List.setIfInBounds_toArray, List.set_cons_zero, List.set_cons_succ]
  refine rgn.Walk.ys (v := ?_) rfl rfl rfl ?_ ?_
  rotate_left 1
  · intro W' hW'
    go_simp
    try with_reducible rfl
  try simp only [Act.put, List.setIfInBounds_toArray, List.set_cons_zero, List.set_cons_succ]
  refine rgn.Walk.ys (v := ?_) rfl rfl rfl ?_ ?_
  rotate_left 1
  · intro W' hW'
    go_simp
    try with_reducible rfl
  try simp only [Act.put, List.setIfInBounds_toArray, List.set_cons_zero, List.set_cons_succ]
  refine rgn.Walk.ys (v := ?_) rfl rfl rfl ?_ ?_
  rotate_left 1
  · intro W' hW'
    go_simp
    try with_reducible rfl
  try simp only [Act.put, List.setIfInBounds_toArray, List.set_cons_zero, List.set_cons_succ]
  refine rgn.Walk.ys (v := ?_) rfl rfl rfl ?_ ?_
  rotate_left 1
  · intro W' hW'
    go_simp
    try with_reducible rfl
  try simp only [Act.put, List.setIfInBounds_toArray, List.set_cons_zero, List.set_cons_succ]
  refine rgn.Walk.ys rfl rfl rfl (fun W' hW' => exec_mac _ _ rfl b 3 rfl _ _ _ _ _ _ (r_lmac (OB.out.only hW' (by simp))) Try.underlying25 rfl (by kernel_rfl)) ?_
  try simp only [Act.put, List.setIfInBounds_toArray, List.set_cons_zero, List.set_cons_succ]
  refine rgn.Walk.ys (v := ?_) rfl rfl rfl ?_ ?_
  rotate_left 1
  · intro W' hW'
    go_simp
    try with_reducible rfl
  try simp only [Act.put, List.setIfInBounds_toArray, List.set_cons_zero, List.set_cons_succ]
  refine rgn.Walk.ys (v := ?_) rfl rfl rfl ?_ ?_
  rotate_left 1
  · intro W' hW'
    go_simp
    try with_reducible rfl
  try simp only [Act.put, List.setIfInBounds_toArray, List.set_cons_zero, List.set_cons_succ]
  refine rgn.Walk.ys (v := ?_) rfl rfl rfl ?_ ?_
  rotate_left 1
  · intro W' hW'
    go_simp
    try with_reducible rfl
  try simp only [Act.put, List.setIfInBounds_toArray, List.set_cons_zero, List.set_cons_succ]
  refine rgn.Walk.ys rfl rfl rfl (fun W' hW' => exec_mac _ _ rfl m 0 rfl _ _ _ _ _ _ (r_mac (OM.out.only hW' (by simp))) Try.underlying25 rfl (by kernel_rfl)) ?_
  try simp only [Act.put, List.setIfInBounds_toArray, List.set_cons_zero, List.set_cons_succ]
  refine rgn.Walk.ys (v := ?_) rfl rfl rfl ?_ ?_
  rotate_left 1
  · intro W' hW'
    have q7 := ev.eqMacD 9998 l.c0 l.c1 l.c2 l.c3 l.c4 l.c5 s.c0 s.c1 s.c2 s.c3 s.c4 s.c5 W'
    rw [HMQ.out] at q7
    go_simp
    try with_reducible rfl
  try simp only [Act.put, List.setIfInBounds_toArray, List.set_cons_zero, List.set_cons_succ]
  refine rgn.Walk.ys (v := ?_) rfl rfl rfl ?_ ?_
  rotate_left 1
  · intro W' hW'
    go_simp
    try with_reducible rfl
  try simp only [Act.put, List.setIfInBounds_toArray, List.set_cons_zero, List.set_cons_succ]
  refine rgn.Walk.zs (NoPanic.normal ?_)
  clear e1 e2
  have k6 := k_st OM.out
  go_wp2_with fail
  go_ret
  exact step_none OM.out QM.out
set_option maxRecDepth 100000 in
set_option maxHeartbeats 8000000 in
theorem hearD1 (w : World) (m : Nat) (T : TypeId) (tl : List Value) (s : Mc) (l : Lm) (now draw : Int) (hO : Ob w m T (s.cs tl)) (hn : Tk now) (h1 : l.op = 2) (h2 : l.id = s.id) (h3 : macEq l s = true) (hs : s.st = 1) :
    Calls Try.prog 20 #[.pointer (some ⟨m, 0, none⟩), .agg l.cs, .int .i64 now, .int .i64 draw] w (StepE m T tl (s.offered l now draw).1 (s.offered l now draw).2 w) := by
  obtain ⟨b, hb⟩ : ∃ b, w.heap.size = b := ⟨_, rfl⟩
  obtain ⟨W1, hW1⟩ : ∃ W1, w.alloc (.cells l.cs 27) = W1 := ⟨_, rfl⟩
  have OB : Hid (Ob W1 b 27 l.cs) := hid (by rw [← hW1, ← hb]; exact Ob.new _ _ _)
  have o1 : Only [] w W1 := by rw [← hW1]; exact (Only.refl [] w).alloc _
  have OM := hid (hO.only o1 (by simp))
  have HN : Hid (m ≠ b) := hid (by have := hO.lt; omega)
  have HBM : Hid (b ∉ [m]) := hid (by have := hO.lt; simp; omega)
  have QM : Hid (Only [m] w W1) := hid (o1.more (by simp))
  have HNow := hid hn
  clear hO o1 hn
  have e1 : (l.op != 2) = false := by simp [h1]
  have e2 : (l.id != s.id) = false := by simp [h2]
  have HMQ : Hid (decide (l.c0 = s.c0 ∧ l.c1 = s.c1 ∧ l.c2 = s.c2 ∧ l.c3 = s.c3 ∧ l.c4 = s.c4 ∧ l.c5 = s.c5) = true) := hid h3
  clear h1 h2 h3
  have f1 : (s.st == 1) = true := by simp [hs]
  clear hs
  by_cases g1 : l.ty = 2
  · have t1 : (l.ty == 2) = true := by simp [g1]
    by_cases g2 : l.yo = 0
    · have HG : Hid (s.offered l now draw = (s, [])) := hid (if_neg (by simp [g2]))
      rw [HG.out]
      have t2 : (l.yo != 0) = false := by simp [g2]
      clear g1 g2
      go_enter Try.func20, Try.ntmps20
      go_wp2_with fail
      refine wp_region_noPanic ?_
      refine rgn.regionT (R := Only []) (by kernel_rfl) (Only.refl []) (fun _ _ _ => Only.trans) (fun _ _ _ _ _ h => h) (.y 0 (.y 1 (.y 2 (.y 3 (.y 4 (.y 5 (.y 6 (.y 7 (.y 8 (.y 9 (.y 10 (.y 11 (.y 12 (.y 13 (.y 14 (.y 15 (.y 16 (.y 17 (.y 18 (.y 19 (.y 20 .z))))))))))))))))))))) (by kernel_rfl) (fun W hWd => ?_)
      have HWd := hid hWd; clear hWd
      have q8 : Only [] W1 W := Only.eq_drew (Only.refl [] _) HWd.out
      have OM := hid (OM.out.only q8 (by simp)); have OB := hid (OB.out.only q8 (by simp)); have QM := hid (QM.out.trans (q8.more (by simp)))
      clear q8 HWd
      refine rgn.Walk.ys (v := ?_) rfl rfl rfl ?_ ?_
      rotate_left 1
      · intro W' hW'
        go_simp
        try with_reducible rfl
      try simp only [Act.put, List.setIfInBounds_toArray, List.set_cons_zero, List.set_cons_succ]
      refine rgn.Walk.ys (v := ?_) rfl rfl rfl ?_ ?_
      rotate_left 1
      · intro W' hW'
        have q0 := l_op (OB.out.only hW' (by simp))
        go_simp
        try with_reducible rfl
      try simp only [Act.put, List.setIfInBounds_toArray, List.set_cons_zero, List.set_cons_succ]
      refine rgn.Walk.ys (v := ?_) rfl rfl rfl ?_ ?_
      rotate_left 1
      · intro W' hW'
        go_simp
        try with_reducible rfl
      try simp only [Act.put, List.setIfInBounds_toArray, List.set_cons_zero, List.set_cons_succ]
      refine rgn.Walk.ys (v := ?_) rfl rfl rfl ?_ ?_
      rotate_left 1
      · intro W' hW'
        go_simp
        try with_reducible rfl
      try simp only [Act.put, List.setIfInBounds_toArray, List.set_cons_zero, List.set_cons_succ]
      refine rgn.Walk.ys (v := ?_) rfl rfl rfl ?_ ?_
      rotate_left 1
      · intro W' hW'
        go_simp
        try with_reducible rfl
      try simp only [Act.put, List.setIfInBounds_toArray, List.set_cons_zero, List.set_cons_succ]
      refine rgn.Walk.ys (v := ?_) rfl rfl rfl ?_ ?_
      rotate_left 1
      · intro W' hW'
        have q0 := l_id (OB.out.only hW' (by simp))
        go_simp
        try with_reducible rfl
      try simp only [Act.put, List.setIfInBounds_toArray, List.set_cons_zero, List.set_cons_succ]
      refine rgn.Walk.ys (v := ?_) rfl rfl rfl ?_ ?_
      rotate_left 1
      · intro W' hW'
        go_simp
        try with_reducible rfl
      try simp only [Act.put, List.setIfInBounds_toArray, List.set_cons_zero, List.set_cons_succ]
      refine rgn.Walk.ys (v := ?_) rfl rfl rfl ?_ ?_
      rotate_left 1
      · intro W' hW'
        go_simp
        try with_reducible rfl
      try simp only [Act.put, List.setIfInBounds_toArray, List.set_cons_zero, List.set_cons_succ]
      refine rgn.Walk.ys (v := ?_) rfl rfl rfl ?_ ?_
      rotate_left 1
      · intro W' hW'
        go_simp
        try with_reducible rfl
      try simp only [Act.put, List.setIfInBounds_toArray, List.set_cons_zero, List.set_cons_succ]
      refine rgn.Walk.ys (v := ?_) rfl rfl rfl ?_ ?_
      rotate_left 1
      · intro W' hW'
        have q0 := k_id (OM.out.only hW' (by simp))
        go_simp
        try with_reducible rfl
      try simp only [Act.put, List.setIfInBounds_toArray, List.set_cons_zero, List.set_cons_succ]
      refine rgn.Walk.ys (v := ?_) rfl rfl rfl ?_ ?_
      rotate_left 1
      · intro W' hW'
        go_simp
        try with_reducible rfl
      try simp only [Act.put, List.setIfInBounds_toArray, List.set_cons_zero, List.set_cons_succ]
      refine rgn.Walk.ys (v := ?_) rfl rfl rfl ?_ ?_
      rotate_left 1
      · intro W' hW'
        go_simp
        try with_reducible rfl
      try simp only [Act.put, List.setIfInBounds_toArray, List.set_cons_zero, List.set_cons_succ]
      refine rgn.Walk.ys (v := ?_) rfl rfl rfl ?_ ?_
      rotate_left 1
      · intro W' hW'
        go_simp
        try with_reducible rfl
      try simp only [Act.put, List.setIfInBounds_toArray, List.set_cons_zero, List.set_cons_succ]
      refine rgn.Walk.ys (v := ?_) rfl rfl rfl ?_ ?_
      rotate_left 1
      · intro W' hW'
        go_simp
        try with_reducible rfl
      try simp only [Act.put, List.setIfInBounds_toArray, List.set_cons_zero, List.set_cons_succ]
      refine rgn.Walk.ys rfl rfl rfl (fun W' hW' => exec_mac _ _ rfl b 3 rfl _ _ _ _ _ _ (r_lmac (OB.out.only hW' (by simp))) Try.underlying25 rfl (by kernel_rfl)) ?_
      try simp only [Act.put, List.setIfInBounds_toArray, List.set_cons_zero, List.set_cons_succ]
      refine rgn.Walk.ys (v := ?_) rfl rfl rfl ?_ ?_
      rotate_left 1
      · intro W' hW'
        go_simp
        try with_reducible rfl
      try simp only [Act.put, List.setIfInBounds_toArray, List.set_cons_zero, List.set_cons_succ]
      refine rgn.Walk.ys (v := ?_) rfl rfl rfl ?_ ?_
      rotate_left 1
      · intro W' hW'
        go_simp
        try with_reducible rfl
      try simp only [Act.put, List.setIfInBounds_toArray, List.set_cons_zero, List.set_cons_succ]
      refine rgn.Walk.ys (v := ?_) rfl rfl rfl ?_ ?_
      rotate_left 1
      · intro W' hW'
        go_simp
        try with_reducible rfl
      try simp only [Act.put, List.setIfInBounds_toArray, List.set_cons_zero, List.set_cons_succ]
      refine rgn.Walk.ys rfl rfl rfl (fun W' hW' => exec_mac _ _ rfl m 0 rfl _ _ _ _ _ _ (r_mac (OM.out.only hW' (by simp))) Try.underlying25 rfl (by kernel_rfl)) ?_
      try simp only [Act.put, List.setIfInBounds_toArray, List.set_cons_zero, List.set_cons_succ]
      refine rgn.Walk.ys (v := ?_) rfl rfl rfl ?_ ?_
      rotate_left 1
      · intro W' hW'
        have q7 := ev.eqMacD 9998 l.c0 l.c1 l.c2 l.c3 l.c4 l.c5 s.c0 s.c1 s.c2 s.c3 s.c4 s.c5 W'
        rw [HMQ.out] at q7
        go_simp
        try with_reducible rfl
      try simp only [Act.put, List.setIfInBounds_toArray, List.set_cons_zero, List.set_cons_succ]
      refine rgn.Walk.ys (v := ?_) rfl rfl rfl ?_ ?_
      rotate_left 1
      · intro W' hW'
        go_simp
        try with_reducible rfl
      try simp only [Act.put, List.setIfInBounds_toArray, List.set_cons_zero, List.set_cons_succ]
      refine rgn.Walk.zs (NoPanic.normal ?_)
      clear e1 e2
      have k6 := k_st OM.out
      have c2 := l_yo OB.out; have c5 := l_sv OB.out; have c4 := l_ty OB.out
      go_wp2_with fail
      go_ret
      exact step_none OM.out QM.out
    · have t2 : (l.yo != 0) = true := by simp [g2]
      by_cases g3 : l.sv = 0
      · have HG : Hid (s.offered l now draw = (s, [])) := hid (if_neg (by simp [g3]))
        rw [HG.out]
        have t3 : (l.sv != 0) = false := by simp [g3]
        clear g1 g2 g3
        go_enter Try.func20, Try.ntmps20
        go_wp2_with fail
        refine wp_region_noPanic ?_
        refine rgn.regionT (R := Only []) (by kernel_rfl) (Only.refl []) (fun _ _ _ => Only.trans) (fun _ _ _ _ _ h => h) (.y 0 (.y 1 (.y 2 (.y 3 (.y 4 (.y 5 (.y 6 (.y 7 (.y 8 (.y 9 (.y 10 (.y 11 (.y 12 (.y 13 (.y 14 (.y 15 (.y 16 (.y 17 (.y 18 (.y 19 (.y 20 .z))))))))))))))))))))) (by kernel_rfl) (fun W hWd => ?_)
        have HWd := hid hWd; clear hWd
        have q8 : Only [] W1 W := Only.eq_drew (Only.refl [] _) HWd.out
        have OM := hid (OM.out.only q8 (by simp)); have OB := hid (OB.out.only q8 (by simp)); have QM := hid (QM.out.trans (q8.more (by simp)))
        clear q8 HWd
        refine rgn.Walk.ys (v := ?_) rfl rfl rfl ?_ ?_
        rotate_left 1
        · intro W' hW'
          go_simp
          try with_reducible rfl
        try simp only [Act.put, List.setIfInBounds_toArray, List.set_cons_zero, List.set_cons_succ]
        refine rgn.Walk.ys (v := ?_) rfl rfl rfl ?_ ?_
        rotate_left 1
        · intro W' hW'
          have q0 := l_op (OB.out.only hW' (by simp))
          go_simp
          try with_reducible rfl
        try simp only [Act.put, List.setIfInBounds_toArray, List.set_cons_zero, List.set_cons_succ]
        refine rgn.Walk.ys (v := ?_) rfl rfl rfl ?_ ?_
        rotate_left 1
        · intro W' hW'
          go_simp
          try with_reducible rfl
        try simp only [Act.put, List.setIfInBounds_toArray, List.set_cons_zero, List.set_cons_succ]
        refine rgn.Walk.ys (v := ?_) rfl rfl rfl ?_ ?_
        rotate_left 1
        · intro W' hW'
          go_simp
          try with_reducible rfl
        try simp only [Act.put, List.setIfInBounds_toArray, List.set_cons_zero, List.set_cons_succ]
        refine rgn.Walk.ys (v := ?_) rfl rfl rfl ?_ ?_
        rotate_left 1
        · intro W' hW'
          go_simp
          try with_reducible rfl
        try simp only [Act.put, List.setIfInBounds_toArray, List.set_cons_zero, List.set_cons_succ]
        refine rgn.Walk.ys (v := ?_) rfl rfl rfl ?_ ?_
        rotate_left 1
        · intro W' hW'
          have q0 := l_id (OB.out.only hW' (by simp))
          go_simp
          try with_reducible rfl
        try simp only [Act.put, List.setIfInBounds_toArray, List.set_cons_zero, List.set_cons_succ]
        refine rgn.Walk.ys (v := ?_) rfl rfl rfl ?_ ?_
        rotate_left 1
        · intro W' hW'
          go_simp
          try with_reducible rfl
        try simp only [Act.put, List.setIfInBounds_toArray, List.set_cons_zero, List.set_cons_succ]
        refine rgn.Walk.ys (v := ?_) rfl rfl rfl ?_ ?_
        rotate_left 1
        · intro W' hW'
          go_simp
          try with_reducible rfl
        try simp only [Act.put, List.setIfInBounds_toArray, List.set_cons_zero, List.set_cons_succ]
        refine rgn.Walk.ys (v := ?_) rfl rfl rfl ?_ ?_
        rotate_left 1
        · intro W' hW'
          go_simp
          try with_reducible rfl
        try simp only [Act.put, List.setIfInBounds_toArray, List.set_cons_zero, List.set_cons_succ]
        refine rgn.Walk.ys (v := ?_) rfl rfl rfl ?_ ?_
        rotate_left 1
        · intro W' hW'
          have q0 := k_id (OM.out.only hW' (by simp))
          go_simp
          try with_reducible rfl
        try simp only [Act.put, List.setIfInBounds_toArray, List.set_cons_zero, List.set_cons_succ]
        refine rgn.Walk.ys (v := ?_) rfl rfl rfl ?_ ?_
        rotate_left 1
        · intro W' hW'
          go_simp
          try with_reducible rfl
        try simp only [Act.put, List.setIfInBounds_toArray, List.set_cons_zero, List.set_cons_succ]
        refine rgn.Walk.ys (v := ?_) rfl rfl rfl ?_ ?_
        rotate_left 1
        · intro W' hW'
          go_simp
          try with_reducible rfl
        try simp only [Act.put, List.setIfInBounds_toArray, List.set_cons_zero, List.set_cons_succ]
        refine rgn.Walk.ys (v := ?_) rfl rfl rfl ?_ ?_
        rotate_left 1
        · intro W' hW'
          go_simp
          try with_reducible rfl
        try simp only [Act.put, List.setIfInBounds_toArray, List.set_cons_zero, List.set_cons_succ]
        refine rgn.Walk.ys (v := ?_) rfl rfl rfl ?_ ?_
        rotate_left 1
        · intro W' hW'
          go_simp
          try with_reducible rfl
        try simp only [Act.put, List.setIfInBounds_toArray, List.set_cons_zero, List.set_cons_succ]
        refine rgn.Walk.ys rfl rfl rfl (fun W' hW' => exec_mac _ _ rfl b 3 rfl _ _ _ _ _ _ (r_lmac (OB.out.only hW' (by simp))) Try.underlying25 rfl (by kernel_rfl)) ?_
        try simp only [Act.put, List.setIfInBounds_toArray, List.set_cons_zero, List.set_cons_succ]
        refine rgn.Walk.ys (v := ?_) rfl rfl rfl ?_ ?_
        rotate_left 1
        · intro W' hW'
          go_simp
          try with_reducible rfl
        try simp only [Act.put, List.setIfInBounds_toArray, List.set_cons_zero, List.set_cons_succ]
        refine rgn.Walk.ys (v := ?_) rfl rfl rfl ?_ ?_
        rotate_left 1
        · intro W' hW'
          go_simp
          try with_reducible rfl
        try simp only [Act.put, List.setIfInBounds_toArray, List.set_cons_zero, List.set_cons_succ]
        refine rgn.Walk.ys (v := ?_) rfl rfl rfl ?_ ?_
        rotate_left 1
        · intro W' hW'
          go_simp
          try with_reducible rfl
        try simp only [Act.put, List.setIfInBounds_toArray, List.set_cons_zero, List.set_cons_succ]
        refine rgn.Walk.ys rfl rfl rfl (fun W' hW' => exec_mac _ _ rfl m 0 rfl _ _ _ _ _ _ (r_mac (OM.out.only hW' (by simp))) Try.underlying25 rfl (by kernel_rfl)) ?_
        try simp only [Act.put, List.setIfInBounds_toArray, List.set_cons_zero, List.set_cons_succ]
        refine rgn.Walk.ys (v := ?_) rfl rfl rfl ?_ ?_
        rotate_left 1
        · intro W' hW'
          have q7 := ev.eqMacD 9998 l.c0 l.c1 l.c2 l.c3 l.c4 l.c5 s.c0 s.c1 s.c2 s.c3 s.c4 s.c5 W'
          rw [HMQ.out] at q7
          go_simp
          try with_reducible rfl
        try simp only [Act.put, List.setIfInBounds_toArray, List.set_cons_zero, List.set_cons_succ]
        refine rgn.Walk.ys (v := ?_) rfl rfl rfl ?_ ?_
        rotate_left 1
        · intro W' hW'
          go_simp
          try with_reducible rfl
        try simp only [Act.put, List.setIfInBounds_toArray, List.set_cons_zero, List.set_cons_succ]
        refine rgn.Walk.zs (NoPanic.normal ?_)
        clear e1 e2
        have k6 := k_st OM.out
        have c2 := l_yo OB.out; have c5 := l_sv OB.out; have c4 := l_ty OB.out
        go_wp2_with fail
        go_ret
        exact step_none OM.out QM.out
      · have t3 : (l.sv != 0) = true := by simp [g3]
        have HG : Hid (s.offered l now draw = ({s with st := 2, of := l, tr := 1, due := laterZ now 40}, [s.sent 3 l.yo l.sv])) := hid (if_pos ⟨g1, g2, g3⟩)
        rw [HG.out]
        clear g1 g2 g3
        go_enter Try.func20, Try.ntmps20
        go_wp2_with fail
        refine wp_region_noPanic ?_
        refine rgn.regionT (R := Only []) (by kernel_rfl) (Only.refl []) (fun _ _ _ => Only.trans) (fun _ _ _ _ _ h => h) (.y 0 (.y 1 (.y 2 (.y 3 (.y 4 (.y 5 (.y 6 (.y 7 (.y 8 (.y 9 (.y 10 (.y 11 (.y 12 (.y 13 (.y 14 (.y 15 (.y 16 (.y 17 (.y 18 (.y 19 (.y 20 .z))))))))))))))))))))) (by kernel_rfl) (fun W hWd => ?_)
        have HWd := hid hWd; clear hWd
        have q8 : Only [] W1 W := Only.eq_drew (Only.refl [] _) HWd.out
        have OM := hid (OM.out.only q8 (by simp)); have OB := hid (OB.out.only q8 (by simp)); have QM := hid (QM.out.trans (q8.more (by simp)))
        clear q8 HWd
        refine rgn.Walk.ys (v := ?_) rfl rfl rfl ?_ ?_
        rotate_left 1
        · intro W' hW'
          go_simp
          try with_reducible rfl
        try simp only [Act.put, List.setIfInBounds_toArray, List.set_cons_zero, List.set_cons_succ]
        refine rgn.Walk.ys (v := ?_) rfl rfl rfl ?_ ?_
        rotate_left 1
        · intro W' hW'
          have q0 := l_op (OB.out.only hW' (by simp))
          go_simp
          try with_reducible rfl
        try simp only [Act.put, List.setIfInBounds_toArray, List.set_cons_zero, List.set_cons_succ]
        refine rgn.Walk.ys (v := ?_) rfl rfl rfl ?_ ?_
        rotate_left 1
        · intro W' hW'
          go_simp
          try with_reducible rfl
        try simp only [Act.put, List.setIfInBounds_toArray, List.set_cons_zero, List.set_cons_succ]
        refine rgn.Walk.ys (v := ?_) rfl rfl rfl ?_ ?_
        rotate_left 1
        · intro W' hW'
          go_simp
          try with_reducible rfl
        try simp only [Act.put, List.setIfInBounds_toArray, List.set_cons_zero, List.set_cons_succ]
        refine rgn.Walk.ys (v := ?_) rfl rfl rfl ?_ ?_
        rotate_left 1
        · intro W' hW'
          go_simp
          try with_reducible rfl
        try simp only [Act.put, List.setIfInBounds_toArray, List.set_cons_zero, List.set_cons_succ]
        refine rgn.Walk.ys (v := ?_) rfl rfl rfl ?_ ?_
        rotate_left 1
        · intro W' hW'
          have q0 := l_id (OB.out.only hW' (by simp))
          go_simp
          try with_reducible rfl
        try simp only [Act.put, List.setIfInBounds_toArray, List.set_cons_zero, List.set_cons_succ]
        refine rgn.Walk.ys (v := ?_) rfl rfl rfl ?_ ?_
        rotate_left 1
        · intro W' hW'
          go_simp
          try with_reducible rfl
        try simp only [Act.put, List.setIfInBounds_toArray, List.set_cons_zero, List.set_cons_succ]
        refine rgn.Walk.ys (v := ?_) rfl rfl rfl ?_ ?_
        rotate_left 1
        · intro W' hW'
          go_simp
          try with_reducible rfl
        try simp only [Act.put, List.setIfInBounds_toArray, List.set_cons_zero, List.set_cons_succ]
        refine rgn.Walk.ys (v := ?_) rfl rfl rfl ?_ ?_
        rotate_left 1
        · intro W' hW'
          go_simp
          try with_reducible rfl
        try simp only [Act.put, List.setIfInBounds_toArray, List.set_cons_zero, List.set_cons_succ]
        refine rgn.Walk.ys (v := ?_) rfl rfl rfl ?_ ?_
        rotate_left 1
        · intro W' hW'
          have q0 := k_id (OM.out.only hW' (by simp))
          go_simp
          try with_reducible rfl
        try simp only [Act.put, List.setIfInBounds_toArray, List.set_cons_zero, List.set_cons_succ]
        refine rgn.Walk.ys (v := ?_) rfl rfl rfl ?_ ?_
        rotate_left 1
        · intro W' hW'
          go_simp
          try with_reducible rfl
        try simp only [Act.put, List.setIfInBounds_toArray, List.set_cons_zero, List.set_cons_succ]
        refine rgn.Walk.ys (v := ?_) rfl rfl rfl ?_ ?_
        rotate_left 1
        · intro W' hW'
          go_simp
          try with_reducible rfl
        try simp only [Act.put, List.setIfInBounds_toArray, List.set_cons_zero, List.set_cons_succ]
        refine rgn.Walk.ys (v := ?_) rfl rfl rfl ?_ ?_
        rotate_left 1
        · intro W' hW'
          go_simp
          try with_reducible rfl
        try simp only [Act.put, List.setIfInBounds_toArray, List.set_cons_zero, List.set_cons_succ]
        refine rgn.Walk.ys (v := ?_) rfl rfl rfl ?_ ?_
        rotate_left 1
        · intro W' hW'
          go_simp
          try with_reducible rfl
        try simp only [Act.put, List.setIfInBounds_toArray, List.set_cons_zero, List.set_cons_succ]
        refine rgn.Walk.ys rfl rfl rfl (fun W' hW' => exec_mac _ _ rfl b 3 rfl _ _ _ _ _ _ (r_lmac (OB.out.only hW' (by simp))) Try.underlying25 rfl (by kernel_rfl)) ?_
        try simp only [Act.put, List.setIfInBounds_toArray, List.set_cons_zero, List.set_cons_succ]
        refine rgn.Walk.ys (v := ?_) rfl rfl rfl ?_ ?_
        rotate_left 1
        · intro W' hW'
          go_simp
          try with_reducible rfl
        try simp only [Act.put, List.setIfInBounds_toArray, List.set_cons_zero, List.set_cons_succ]
        refine rgn.Walk.ys (v := ?_) rfl rfl rfl ?_ ?_
        rotate_left 1
        · intro W' hW'
          go_simp
          try with_reducible rfl
        try simp only [Act.put, List.setIfInBounds_toArray, List.set_cons_zero, List.set_cons_succ]
        refine rgn.Walk.ys (v := ?_) rfl rfl rfl ?_ ?_
        rotate_left 1
        · intro W' hW'
          go_simp
          try with_reducible rfl
        try simp only [Act.put, List.setIfInBounds_toArray, List.set_cons_zero, List.set_cons_succ]
        refine rgn.Walk.ys rfl rfl rfl (fun W' hW' => exec_mac _ _ rfl m 0 rfl _ _ _ _ _ _ (r_mac (OM.out.only hW' (by simp))) Try.underlying25 rfl (by kernel_rfl)) ?_
        try simp only [Act.put, List.setIfInBounds_toArray, List.set_cons_zero, List.set_cons_succ]
        refine rgn.Walk.ys (v := ?_) rfl rfl rfl ?_ ?_
        rotate_left 1
        · intro W' hW'
          have q7 := ev.eqMacD 9998 l.c0 l.c1 l.c2 l.c3 l.c4 l.c5 s.c0 s.c1 s.c2 s.c3 s.c4 s.c5 W'
          rw [HMQ.out] at q7
          go_simp
          try with_reducible rfl
        try simp only [Act.put, List.setIfInBounds_toArray, List.set_cons_zero, List.set_cons_succ]
        refine rgn.Walk.ys (v := ?_) rfl rfl rfl ?_ ?_
        rotate_left 1
        · intro W' hW'
          go_simp
          try with_reducible rfl
        try simp only [Act.put, List.setIfInBounds_toArray, List.set_cons_zero, List.set_cons_succ]
        refine rgn.Walk.zs (NoPanic.normal ?_)
        clear e1 e2
        have k6 := k_st OM.out
        have c2 := l_yo OB.out; have c5 := l_sv OB.out; have c4 := l_ty OB.out
        go_wp2_with (first | (refine wp_put rfl _ _ _ rfl m 6 rfl (.int .i64 2) rfl OM.out (by kernel_rfl) (Nat.le_trans (show _ ≤ 43 from Nat.le_of_ble_eq_true rfl) (mcs_size _ _)) (one_i _ _) (p_st OM.out 2) ?_) | fail)
        intro W9 hb9 o9
        try simp only [Act.put, List.setIfInBounds_toArray, List.set_cons_zero, List.set_cons_succ]
        have OM := hid hb9; have QM := hid (QM.out.trans o9); have OB := hid (OB.out.only o9 HBM.out)
        clear hb9 o9
        clear c2 c5 c4 k6 t1 t2 t3 f1
        go_wp2_with (first | (refine wp_lm rfl 27 _ rfl b 0 rfl l (r_all OB.out) Try.underlying27 rfl (by kernel_rfl) ?_; try simp only [Act.put, List.setIfInBounds_toArray, List.set_cons_zero, List.set_cons_succ]) | (refine wp_put rfl _ _ _ rfl m 10 rfl (.agg l.cs) rfl OM.out (by kernel_rfl) (Nat.le_trans (show _ ≤ 43 from Nat.le_of_ble_eq_true rfl) (mcs_size _ _)) (one_l _) (p_of OM.out l) ?_) | fail)
        intro W9 hb9 o9
        try simp only [Act.put, List.setIfInBounds_toArray, List.set_cons_zero, List.set_cons_succ]
        have OM := hid hb9; have QM := hid (QM.out.trans o9); have OB := hid (OB.out.only o9 HBM.out)
        clear hb9 o9
        go_wp2_with (first | (refine wp_put rfl _ _ _ rfl m 9 rfl (.int .i64 1) rfl OM.out (by kernel_rfl) (Nat.le_trans (show _ ≤ 43 from Nat.le_of_ble_eq_true rfl) (mcs_size _ _)) (one_i _ _) (p_tr OM.out 1) ?_) | fail)
        intro W9 hb9 o9
        try simp only [Act.put, List.setIfInBounds_toArray, List.set_cons_zero, List.set_cons_succ]
        have OM := hid hb9; have QM := hid (QM.out.trans o9); have OB := hid (OB.out.only o9 HBM.out)
        clear hb9 o9
        go_wp2_with fail
        refine (rlater _ now 40 (by omega) HNow.out).mono ?_
        rintro x w2 ⟨rfl, rfl⟩
        go_wp2_with (first | (refine wp_put rfl _ _ _ rfl m 8 rfl (.int .i64 (laterZ now 40)) rfl OM.out (by kernel_rfl) (Nat.le_trans (show _ ≤ 43 from Nat.le_of_ble_eq_true rfl) (mcs_size _ _)) (one_i _ _) (p_due OM.out (laterZ now 40)) ?_) | fail)
        intro W9 hb9 o9
        try simp only [Act.put, List.setIfInBounds_toArray, List.set_cons_zero, List.set_cons_succ]
        have OM := hid hb9; have QM := hid (QM.out.trans o9); have OB := hid (OB.out.only o9 HBM.out)
        clear hb9 o9
        have c2 := l_yo OB.out; have c5 := l_sv OB.out
        go_wp2_with fail
        refine (sends1 _ m T tl _ 3 l.yo l.sv OM.out).mono ?_
        rintro x w3 ⟨A, n, c, rfl, hl, hr, hf, o3⟩
        have HL := hid hl; have HR := hid hr; have HF := hid hf; have OM := hid (OM.out.only o3 (by simp)); have HZ := hid QM.out.size; have QM := hid (QM.out.trans (o3.more (by simp)))
        clear hl hr hf o3
        clear c2 c5
        go_wp2_with fail
        go_ret
        exact ⟨A, n, c, rfl, HL.out, HR.out, fun b off e => Nat.le_trans HZ.out (HF.out b off e), OM.out, QM.out⟩
  · have HG : Hid (s.offered l now draw = (s, [])) := hid (if_neg (by simp [g1]))
    rw [HG.out]
    have t1 : (l.ty == 2) = false := by simp [g1]
    clear g1
    go_enter Try.func20, Try.ntmps20
    go_wp2_with fail
    refine wp_region_noPanic ?_
    refine rgn.regionT (R := Only []) (by kernel_rfl) (Only.refl []) (fun _ _ _ => Only.trans) (fun _ _ _ _ _ h => h) (.y 0 (.y 1 (.y 2 (.y 3 (.y 4 (.y 5 (.y 6 (.y 7 (.y 8 (.y 9 (.y 10 (.y 11 (.y 12 (.y 13 (.y 14 (.y 15 (.y 16 (.y 17 (.y 18 (.y 19 (.y 20 .z))))))))))))))))))))) (by kernel_rfl) (fun W hWd => ?_)
    have HWd := hid hWd; clear hWd
    have q8 : Only [] W1 W := Only.eq_drew (Only.refl [] _) HWd.out
    have OM := hid (OM.out.only q8 (by simp)); have OB := hid (OB.out.only q8 (by simp)); have QM := hid (QM.out.trans (q8.more (by simp)))
    clear q8 HWd
    refine rgn.Walk.ys (v := ?_) rfl rfl rfl ?_ ?_
    rotate_left 1
    · intro W' hW'
      go_simp
      try with_reducible rfl
    try simp only [Act.put, List.setIfInBounds_toArray, List.set_cons_zero, List.set_cons_succ]
    refine rgn.Walk.ys (v := ?_) rfl rfl rfl ?_ ?_
    rotate_left 1
    · intro W' hW'
      have q0 := l_op (OB.out.only hW' (by simp))
      go_simp
      try with_reducible rfl
    try simp only [Act.put, List.setIfInBounds_toArray, List.set_cons_zero, List.set_cons_succ]
    refine rgn.Walk.ys (v := ?_) rfl rfl rfl ?_ ?_
    rotate_left 1
    · intro W' hW'
      go_simp
      try with_reducible rfl
    try simp only [Act.put, List.setIfInBounds_toArray, List.set_cons_zero, List.set_cons_succ]
    refine rgn.Walk.ys (v := ?_) rfl rfl rfl ?_ ?_
    rotate_left 1
    · intro W' hW'
      go_simp
      try with_reducible rfl
    try simp only [Act.put, List.setIfInBounds_toArray, List.set_cons_zero, List.set_cons_succ]
    refine rgn.Walk.ys (v := ?_) rfl rfl rfl ?_ ?_
    rotate_left 1
    · intro W' hW'
      go_simp
      try with_reducible rfl
    try simp only [Act.put, List.setIfInBounds_toArray, List.set_cons_zero, List.set_cons_succ]
    refine rgn.Walk.ys (v := ?_) rfl rfl rfl ?_ ?_
    rotate_left 1
    · intro W' hW'
      have q0 := l_id (OB.out.only hW' (by simp))
      go_simp
      try with_reducible rfl
    try simp only [Act.put, List.setIfInBounds_toArray, List.set_cons_zero, List.set_cons_succ]
    refine rgn.Walk.ys (v := ?_) rfl rfl rfl ?_ ?_
    rotate_left 1
    · intro W' hW'
      go_simp
      try with_reducible rfl
    try simp only [Act.put, List.setIfInBounds_toArray, List.set_cons_zero, List.set_cons_succ]
    refine rgn.Walk.ys (v := ?_) rfl rfl rfl ?_ ?_
    rotate_left 1
    · intro W' hW'
      go_simp
      try with_reducible rfl
    try simp only [Act.put, List.setIfInBounds_toArray, List.set_cons_zero, List.set_cons_succ]
    refine rgn.Walk.ys (v := ?_) rfl rfl rfl ?_ ?_
    rotate_left 1
    · intro W' hW'
      go_simp
      try with_reducible rfl
    try simp only [Act.put, List.setIfInBounds_toArray, List.set_cons_zero, List.set_cons_succ]
    refine rgn.Walk.ys (v := ?_) rfl rfl rfl ?_ ?_
    rotate_left 1
    · intro W' hW'
      have q0 := k_id (OM.out.only hW' (by simp))
      go_simp
      try with_reducible rfl
    try simp only [Act.put, List.setIfInBounds_toArray, List.set_cons_zero, List.set_cons_succ]
    refine rgn.Walk.ys (v := ?_) rfl rfl rfl ?_ ?_
    rotate_left 1
    · intro W' hW'
      go_simp
      try with_reducible rfl
    try simp only [Act.put, List.setIfInBounds_toArray, List.set_cons_zero, List.set_cons_succ]
    refine rgn.Walk.ys (v := ?_) rfl rfl rfl ?_ ?_
    rotate_left 1
    · intro W' hW'
      go_simp
      try with_reducible rfl
    try simp only [Act.put, List.setIfInBounds_toArray, List.set_cons_zero, List.set_cons_succ]
    refine rgn.Walk.ys (v := ?_) rfl rfl rfl ?_ ?_
    rotate_left 1
    · intro W' hW'
      go_simp
      try with_reducible rfl
    try simp only [Act.put, List.setIfInBounds_toArray, List.set_cons_zero, List.set_cons_succ]
    refine rgn.Walk.ys (v := ?_) rfl rfl rfl ?_ ?_
    rotate_left 1
    · intro W' hW'
      go_simp
      try with_reducible rfl
    try simp only [Act.put, List.setIfInBounds_toArray, List.set_cons_zero, List.set_cons_succ]
    refine rgn.Walk.ys rfl rfl rfl (fun W' hW' => exec_mac _ _ rfl b 3 rfl _ _ _ _ _ _ (r_lmac (OB.out.only hW' (by simp))) Try.underlying25 rfl (by kernel_rfl)) ?_
    try simp only [Act.put, List.setIfInBounds_toArray, List.set_cons_zero, List.set_cons_succ]
    refine rgn.Walk.ys (v := ?_) rfl rfl rfl ?_ ?_
    rotate_left 1
    · intro W' hW'
      go_simp
      try with_reducible rfl
    try simp only [Act.put, List.setIfInBounds_toArray, List.set_cons_zero, List.set_cons_succ]
    refine rgn.Walk.ys (v := ?_) rfl rfl rfl ?_ ?_
    rotate_left 1
    · intro W' hW'
      go_simp
      try with_reducible rfl
    try simp only [Act.put, List.setIfInBounds_toArray, List.set_cons_zero, List.set_cons_succ]
    refine rgn.Walk.ys (v := ?_) rfl rfl rfl ?_ ?_
    rotate_left 1
    · intro W' hW'
      go_simp
      try with_reducible rfl
    try simp only [Act.put, List.setIfInBounds_toArray, List.set_cons_zero, List.set_cons_succ]
    refine rgn.Walk.ys rfl rfl rfl (fun W' hW' => exec_mac _ _ rfl m 0 rfl _ _ _ _ _ _ (r_mac (OM.out.only hW' (by simp))) Try.underlying25 rfl (by kernel_rfl)) ?_
    try simp only [Act.put, List.setIfInBounds_toArray, List.set_cons_zero, List.set_cons_succ]
    refine rgn.Walk.ys (v := ?_) rfl rfl rfl ?_ ?_
    rotate_left 1
    · intro W' hW'
      have q7 := ev.eqMacD 9998 l.c0 l.c1 l.c2 l.c3 l.c4 l.c5 s.c0 s.c1 s.c2 s.c3 s.c4 s.c5 W'
      rw [HMQ.out] at q7
      go_simp
      try with_reducible rfl
    try simp only [Act.put, List.setIfInBounds_toArray, List.set_cons_zero, List.set_cons_succ]
    refine rgn.Walk.ys (v := ?_) rfl rfl rfl ?_ ?_
    rotate_left 1
    · intro W' hW'
      go_simp
      try with_reducible rfl
    try simp only [Act.put, List.setIfInBounds_toArray, List.set_cons_zero, List.set_cons_succ]
    refine rgn.Walk.zs (NoPanic.normal ?_)
    clear e1 e2
    have k6 := k_st OM.out
    have c2 := l_yo OB.out; have c5 := l_sv OB.out; have c4 := l_ty OB.out
    go_wp2_with fail
    go_ret
    exact step_none OM.out QM.out
end Go.Proofs.Ytdpmjghdmpaehaa.lp
