/-
  Chapter 10 (igmp): the document's Encode, Later and delay, by a walk of each text. Conditions: none but those typed.
-/
import Derived.Test.YtodcjokafjdhdaaIgI
import Derived.Test.YtodcjokafjdhdaaRef10
import Derived.Test.YtodcjokafjdhdaaRga
namespace Go.Proofs.Ytodcjokafjdhdaa.igm
set_option linter.unusedVariables false
set_option linter.unusedSimpArgs false
open Go.ChangeShapes Go.WideShapes Go.ChangeAt Go.RowKit Go.IntWalk Go.Lib
set_option maxRecDepth 100000 in
set_option maxHeartbeats 8000000 in
theorem encD (w : World) (ty mx grp : Int) (h1 : 0 ≤ ty ∧ ty ≤ 255) (h2 : 0 ≤ mx ∧ mx ≤ 255) : Calls Try.prog 10 #[.agg #[.int .i64 ty, .int .i64 mx, .int .u32 grp]] w (EncH 0 w) := by
  obtain ⟨W0, hW0⟩ : ∃ W0, w.alloc (.cells #[.int .i64 ty, .int .i64 mx, .int .u32 grp] 25) = W0 := ⟨_, rfl⟩
  have OB : Hid (Ob W0 w.heap.size 25 #[.int .i64 ty, .int .i64 mx, .int .u32 grp]) := hid (by rw [← hW0]; exact Ob.new _ _ _)
  have Q0 : Hid (Only [] w W0) := hid (by rw [← hW0]; exact (Only.refl [] w).alloc _)
  have hbs : w.heap.size < W0.heap.size := OB.out.lt
  have B2 : Hid (Below W0.heap.size W0 W0) := hid (Below.refl _ _)
  have HWF : Hid (∀ z ∈ [ty, mx, 0, 0], (Lit.int .u8 z).wf = true) := hid (by
    intro z hz
    simp only [List.mem_cons, List.not_mem_nil, or_false] at hz
    apply ref.u8wf; omega)
  have g0 := OB.out.cell 0; have g1 := OB.out.cell 1
  have m1 : IntKind.u8.wrap ty = ty := u8_in _ (by omega)
  have m2 : IntKind.u8.wrap mx = mx := u8_in _ (by omega)
  go_enter Try.func10, Try.ntmps10
  go_wp2_with fail
  clear g0 g1
  refine wp_region_noPanic ?_
  refine rgn.regionT (R := Same w.heap.size) (by kernel_rfl) (Same.refl w.heap.size) (Same.trans (g := w.heap.size)) (fun _ _ _ _ _ h => h) (.y 0 (.y 1 (.y 2 (.y 3 (.y 4 (.y 5 (.y 7 (.y 8 (.b 6 9 (.e 9 (.e 10 (.e 11 .z))) (.e 6 (.e 10 (.e 11 .z)))))))))))) (by kernel_rfl) (fun W hWd => ?_)
  have HWd := hid hWd; clear hWd
  have B2 := hid (show Below _ _ W from by rw [HWd.out]; exact B2.out.drew)
  clear HWd
  refine rgn.Walk.ys (v := ?_) rfl rfl rfl ?_ ?_
  rotate_left 1
  · intro W' hW'
    go_simp
    try with_reducible rfl
  try simp only [Act.put, List.setIfInBounds_toArray, List.set_cons_zero, List.set_cons_succ]
  refine rgn.Walk.ys (v := ?_) rfl rfl rfl ?_ ?_
  rotate_left 1
  · intro W' hW'
    have q0 := ((OB.out.same (show Same w.heap.size _ _ from B2.out.block _ hbs)).same hW').cell 0
    go_simp
    try with_reducible rfl
  try simp only [Act.put, List.setIfInBounds_toArray, List.set_cons_zero, List.set_cons_succ]
  refine rgn.Walk.ys (v := ?_) rfl rfl rfl ?_ ?_
  rotate_left 1
  · intro W' hW'
    go_simp
    try with_reducible rfl
  try simp only [Act.put, List.setIfInBounds_toArray, List.set_cons_zero, List.set_cons_succ]
  refine rgn.Walk.ys (v := ?_) rfl rfl rfl ?_ ?_
  rotate_left 1
  · intro W' hW'
    go_simp
    try with_reducible rfl
  try simp only [Act.put, List.setIfInBounds_toArray, List.set_cons_zero, List.set_cons_succ]
  refine rgn.Walk.ys (v := ?_) rfl rfl rfl ?_ ?_
  rotate_left 1
  · intro W' hW'
    have q0 := ((OB.out.same (show Same w.heap.size _ _ from B2.out.block _ hbs)).same hW').cell 1
    go_simp
    try with_reducible rfl
  try simp only [Act.put, List.setIfInBounds_toArray, List.set_cons_zero, List.set_cons_succ]
  refine rgn.Walk.ys (v := ?_) rfl rfl rfl ?_ ?_
  rotate_left 1
  · intro W' hW'
    go_simp
    try with_reducible rfl
  try simp only [Act.put, List.setIfInBounds_toArray, List.set_cons_zero, List.set_cons_succ]
  refine rgn.Walk.ys (v := ?_) rfl rfl rfl ?_ ?_
  rotate_left 1
  · intro W' hW'
    go_simp
    try with_reducible rfl
  try simp only [Act.put, List.setIfInBounds_toArray, List.set_cons_zero, List.set_cons_succ]
  refine rgn.Walk.ys (v := ?_) rfl rfl rfl ?_ ?_
  rotate_left 1
  · intro W' hW'
    have q0 := ((OB.out.same (show Same w.heap.size _ _ from B2.out.block _ hbs)).same hW').cell 2
    go_simp
    try with_reducible rfl
  try simp only [Act.put, List.setIfInBounds_toArray, List.set_cons_zero, List.set_cons_succ]
  refine rgn.Walk.bs ?_ ?_
  · refine rgn.stepE rfl rfl (fun K hK => ?_)
    go_simp
    refine hK _ _ (Same.alloc _ (by have := B2.out.size; omega)) ?_
    clear hK K
    try simp only [Act.put, List.setIfInBounds_toArray, List.set_cons_zero, List.set_cons_succ]
    have VB := hid (Own.lit .u8 5 W W0.heap.size [ty, mx, 0, 0] _ 4 rfl rfl (by have := B2.out.size; omega) (by simp [maxLen]) HWF.out)
    obtain ⟨g21, hg21⟩ : ∃ g, W.heap.size = g := ⟨_, rfl⟩
    obtain ⟨w21, hw21⟩ : ∃ x, W.alloc (.cells ([ty, mx, 0, 0].map (.int .u8)).toArray 5) = x := ⟨_, rfl⟩
    have o21 : Only [] W w21 := by rw [← hw21]; exact (Only.refl [] _).alloc _
    have B2 := hid (B2.out.trans (o21.below_nil.mono (by have := B2.out.size; omega)))
    simp only [List.map_cons, List.map_nil] at hw21 VB
    rw [hw21] at VB ⊢
    rw [hg21] at VB ⊢
    clear o21 hw21
    refine rgn.Walk.es ?_
    refine rgn.stepE rfl rfl (fun K hK => ?_)
    go_simp
    refine (ref.four1 _ grp).mono ?_
    rintro x w22 ⟨g22, rfl, h22, o22⟩
    refine hK _ _ (Same.only o22 (by have := B2.out.size; omega)) ?_
    clear hK K
    try simp only [Act.put, List.setIfInBounds_toArray, List.set_cons_zero, List.set_cons_succ]
    have VB := hid (VB.out.only_nil o22)
    have P1 := hid (h22.mono_base (show W0.heap.size ≤ _ from (by have := B2.out.size; omega))); have B2 := hid (B2.out.trans (o22.below_nil.mono (by have := B2.out.size; omega)))
    clear h22 o22
    refine rgn.Walk.es ?_
    refine rgn.stepE rfl rfl (fun K hK => ?_)
    refine opApp rfl (.tmp 30) (.tmp 33) _ rfl oct.elemB _ _ [ty, mx, 0, 0] rfl VB.out (some ⟨g22, 0, none⟩) 4 4 (ref.four grp) rfl (P1.out.rd) (by simp) (by simp [ref.four]) (by unfold maxLen; simp [ref.four]) (by have := B2.out.size; omega) ?_
    intro v9 w9 hv hg hb
    refine hK _ _ (Same.grown hg (by have := B2.out.size; omega) (fun e => by have := (VB.out.lt _ e).1; omega)) ?_
    clear hK K
    try simp only [Act.put, List.setIfInBounds_toArray, List.set_cons_zero, List.set_cons_succ]
    have B2 := hid (B2.out.grown hg (by have := B2.out.size; omega) (fun k hk => (VB.out.lt k hk).1)); have VN := hid hv
    clear hv hg hb
    refine rgn.Walk.es ?_
    refine rgn.stepE rfl rfl (fun K hK => ?_)
    go_simp
    refine hK _ _ ((Same.refl w.heap.size) _) ?_
    clear hK K
    try simp only [Act.put, List.setIfInBounds_toArray, List.set_cons_zero, List.set_cons_succ]
    refine rgn.Walk.zs (NoPanic.normal ?_)
    clear VB P1
    obtain ⟨g, cap, e2⟩ := VN.out.some_form (by simp [ref.four])
    rw [show ([ty, mx, 0, 0] ++ ref.four grp).length = 8 from rfl] at e2
    subst e2
    go_wp2_with fail
    refine (oct.sum2 _ (some ⟨g, 0, none⟩) 8 cap _ VN.out.rd (by omega)).mono ?_
    rintro x w70 ⟨rfl, m, rfl⟩
    generalize oct.sumF ([ty, mx, 0, 0] ++ ref.four grp) = s
    have VB := hid (VN.out.only_nil ((Only.refl [] w9).drewN m)); have B3 := hid (B2.out.trans (((Only.refl [] w9).drewN m).below_nil.mono (by have := B2.out.size; omega)))
    have hlow : W0.heap.size ≤ g := VB.out.base_le.1
    have Q4 : Hid (Only [] W0 (w9.drewN m)) := hid (Only.of_below (S := []) B3.out)
    have c2 := VB.out.cellD 2 (by omega)
    have f2 := VB.out.frozen 2
    have V4 := hid (VB.out.set 2 (s / 256 % 256) (ref.u8wf (by omega)))
    have c3 := V4.out.cellD 3 (by omega)
    have f3 := V4.out.frozen 3
    have Q5 := hid ((Q4.out.setCell (p := ⟨g, 2, none⟩) (Or.inr hlow) (.int .u8 (s / 256 % 256))).setCell (p := ⟨g, 3, none⟩) (Or.inr hlow) (.int .u8 (s % 256)))
    go_wp2_with fail
    go_ret2
    exact ⟨⟨_, _, _, rfl⟩, Q0.out.trans Q5.out⟩
  · refine rgn.stepE rfl rfl (fun K hK => ?_)
    go_simp
    refine (ref.four1 _ grp).mono ?_
    rintro x w24 ⟨g24, rfl, h24, o24⟩
    refine hK _ _ (Same.only o24 (by have := B2.out.size; omega)) ?_
    clear hK K
    try simp only [Act.put, List.setIfInBounds_toArray, List.set_cons_zero, List.set_cons_succ]
    have P1 := hid (h24.mono_base (show W0.heap.size ≤ _ from (by have := B2.out.size; omega))); have B2 := hid (B2.out.trans (o24.below_nil.mono (by have := B2.out.size; omega)))
    clear h24 o24
    refine rgn.Walk.es ?_
    refine rgn.stepE rfl rfl (fun K hK => ?_)
    go_simp
    refine hK _ _ (Same.alloc _ (by have := B2.out.size; omega)) ?_
    clear hK K
    try simp only [Act.put, List.setIfInBounds_toArray, List.set_cons_zero, List.set_cons_succ]
    have VB := hid (Own.lit .u8 5 w24 W0.heap.size [ty, mx, 0, 0] _ 4 rfl rfl (by have := B2.out.size; omega) (by simp [maxLen]) HWF.out)
    obtain ⟨g25, hg25⟩ : ∃ g, w24.heap.size = g := ⟨_, rfl⟩
    obtain ⟨w25, hw25⟩ : ∃ x, w24.alloc (.cells ([ty, mx, 0, 0].map (.int .u8)).toArray 5) = x := ⟨_, rfl⟩
    have o25 : Only [] w24 w25 := by rw [← hw25]; exact (Only.refl [] _).alloc _
    have P1 := hid (P1.out.only_nil o25)
    have B2 := hid (B2.out.trans (o25.below_nil.mono (by have := B2.out.size; omega)))
    simp only [List.map_cons, List.map_nil] at hw25 VB
    rw [hw25] at VB ⊢
    rw [hg25] at VB ⊢
    clear o25 hw25
    refine rgn.Walk.es ?_
    refine rgn.stepE rfl rfl (fun K hK => ?_)
    refine opApp rfl (.tmp 30) (.tmp 33) _ rfl oct.elemB _ _ [ty, mx, 0, 0] rfl VB.out (some ⟨g24, 0, none⟩) 4 4 (ref.four grp) rfl (P1.out.rd) (by simp) (by simp [ref.four]) (by unfold maxLen; simp [ref.four]) (by have := B2.out.size; omega) ?_
    intro v9 w9 hv hg hb
    refine hK _ _ (Same.grown hg (by have := B2.out.size; omega) (fun e => by have := (VB.out.lt _ e).1; omega)) ?_
    clear hK K
    try simp only [Act.put, List.setIfInBounds_toArray, List.set_cons_zero, List.set_cons_succ]
    have B2 := hid (B2.out.grown hg (by have := B2.out.size; omega) (fun k hk => (VB.out.lt k hk).1)); have VN := hid hv
    clear hv hg hb
    refine rgn.Walk.es ?_
    refine rgn.stepE rfl rfl (fun K hK => ?_)
    go_simp
    refine hK _ _ ((Same.refl w.heap.size) _) ?_
    clear hK K
    try simp only [Act.put, List.setIfInBounds_toArray, List.set_cons_zero, List.set_cons_succ]
    refine rgn.Walk.zs (NoPanic.normal ?_)
    clear VB P1
    obtain ⟨g, cap, e2⟩ := VN.out.some_form (by simp [ref.four])
    rw [show ([ty, mx, 0, 0] ++ ref.four grp).length = 8 from rfl] at e2
    subst e2
    go_wp2_with fail
    refine (oct.sum2 _ (some ⟨g, 0, none⟩) 8 cap _ VN.out.rd (by omega)).mono ?_
    rintro x w70 ⟨rfl, m, rfl⟩
    generalize oct.sumF ([ty, mx, 0, 0] ++ ref.four grp) = s
    have VB := hid (VN.out.only_nil ((Only.refl [] w9).drewN m)); have B3 := hid (B2.out.trans (((Only.refl [] w9).drewN m).below_nil.mono (by have := B2.out.size; omega)))
    have hlow : W0.heap.size ≤ g := VB.out.base_le.1
    have Q4 : Hid (Only [] W0 (w9.drewN m)) := hid (Only.of_below (S := []) B3.out)
    have c2 := VB.out.cellD 2 (by omega)
    have f2 := VB.out.frozen 2
    have V4 := hid (VB.out.set 2 (s / 256 % 256) (ref.u8wf (by omega)))
    have c3 := V4.out.cellD 3 (by omega)
    have f3 := V4.out.frozen 3
    have Q5 := hid ((Q4.out.setCell (p := ⟨g, 2, none⟩) (Or.inr hlow) (.int .u8 (s / 256 % 256))).setCell (p := ⟨g, 3, none⟩) (Or.inr hlow) (.int .u8 (s % 256)))
    go_wp2_with fail
    go_ret2
    exact ⟨⟨_, _, _, rfl⟩, Q0.out.trans Q5.out⟩
/-- Encode of anything: its error. -/
theorem encDB (w : World) (ty mx grp : Int) (h : badM ty mx) : Calls Try.prog 10 #[.agg #[.int .i64 ty, .int .i64 mx, .int .u32 grp]] w (EncH 1 w) := by
  have Q0 : Hid (Only [] w (w.alloc (.cells #[.int .i64 ty, .int .i64 mx, .int .u32 grp] 25))) := hid ((Only.refl [] w).alloc _)
  unfold badM at h
  by_cases h1 : ty < 0
  · clear h
    go_enter Try.func10, Try.ntmps10
    go_wp2_with fail
    go_ret2
    exact ⟨⟨_, _, _, rfl⟩, Q0.out⟩
  · by_cases h2 : 255 < ty
    · clear h
      go_enter Try.func10, Try.ntmps10
      go_wp2_with fail
      go_ret2
      exact ⟨⟨_, _, _, rfl⟩, Q0.out⟩
    · by_cases h3 : mx < 0
      · clear h
        go_enter Try.func10, Try.ntmps10
        go_wp2_with fail
        go_ret2
        exact ⟨⟨_, _, _, rfl⟩, Q0.out⟩
      · have h4 : 255 < mx := by omega
        clear h
        go_enter Try.func10, Try.ntmps10
        go_wp2_with fail
        go_ret2
        exact ⟨⟨_, _, _, rfl⟩, Q0.out⟩
theorem rlater (w : World) (now b : Int) (hb : 0 ≤ b ∧ b ≤ 9223372036854775807) (hn : 0 ≤ now ∧ now ≤ 9223372036854775807) : Calls Try.prog 55 #[.int .i64 now, .int .i64 b] w fun x w' => x = .returned (.int .i64 (laterZ now b)) ∧ w = w' := by
  by_cases h : 9223372036854775807 - b < now
  · have HL : Hid (laterZ now b = 9223372036854775807) := hid (if_pos h)
    have hw : IntKind.i64.wrap (now + b) = now + b - 18446744073709551616 := by rw [IntKind.wrap_i64]; omega
    have hb0 : 0 < b := by omega
    have hlt : now + b - 18446744073709551616 < now := by omega
    go_enter Try.func55, Try.ntmps55
    go_wp2_with fail
    go_ret
    exact ⟨by rw [HL.out]; first | rfl | simp, rfl⟩
  · have HL : Hid (laterZ now b = now + b) := hid (if_neg h)
    have hw : IntKind.i64.wrap (now + b) = now + b := i64_in _ (by omega)
    have hnl : ¬ now + b < now := by omega
    have hbn : ¬ b < 0 := by omega
    go_enter Try.func55, Try.ntmps55
    by_cases hb0 : 0 < b
    · go_wp2_with fail
      go_ret
      exact ⟨by rw [HL.out]; first | rfl | simp, rfl⟩
    · go_wp2_with fail
      go_ret
      exact ⟨by rw [HL.out]; first | rfl | simp, rfl⟩
theorem dly_eq (d k m : Nat) : dly d k m = 1 + (d % m + k) % m := by
  unfold dly; rw [Nat.add_mod (d % m) k m, Nat.mod_mod]
set_option maxRecDepth 100000 in
set_option maxHeartbeats 4000000 in
theorem delayD (w : World) (draw most : Int) (k : Nat) (hd : draw ≤ 9223372036854775807) (hm : most ≤ 1000) (hk : k ≤ 1000) :
    Calls Try.prog 56 #[.int .i64 draw, .int .i64 (k : Int), .int .i64 most] w fun x w' => x = .returned (.int .i64 (dly draw.toNat k (max most 1).toNat : Nat)) ∧ w = w' := by
  obtain ⟨m, hmm⟩ : ∃ m : Nat, (max most 1).toNat = m := ⟨_, rfl⟩
  obtain ⟨d, hdd⟩ : ∃ d : Nat, draw.toNat = d := ⟨_, rfl⟩
  have e1 : (if 1 < most then most else 1) = (m : Int) := by split <;> omega
  have e2 : (if 0 < draw then draw else 0) = (d : Int) := by split <;> omega
  have hm1 : 1 ≤ m := by omega
  have hm2 : m ≤ 1000 := by omega
  rw [hmm, hdd]
  have hl := dly_le d k m (by omega)
  have a1 := Nat.mod_lt d (show 0 < m by omega)
  have t1 : (d : Int).tmod (m : Int) = ((d % m : Nat) : Int) := by rw [Int.tmod_eq_emod_of_nonneg (by omega)]; exact (Int.natCast_emod d m).symm
  have hr8 := dly_eq d k m
  obtain ⟨p, hp⟩ : ∃ p, d % m = p := ⟨_, rfl⟩
  rw [hp] at t1 a1 hr8
  have t3 : ((p : Int) + (k : Int)).tmod (m : Int) = (((p + k) % m : Nat) : Int) := by rw [Int.tmod_eq_emod_of_nonneg (by omega)]; rw [Int.natCast_emod]; rfl
  have s1 : IntKind.i64.wrap ((p : Int) + (k : Int)) = (p : Int) + (k : Int) := i64_in _ (by omega)
  obtain ⟨r, hr⟩ : ∃ r, (p + k) % m = r := ⟨_, rfl⟩
  rw [hr] at t3 hr8
  rw [hr8] at hl ⊢
  have s2 : IntKind.i64.wrap (1 + (r : Int)) = 1 + (r : Int) := i64_in _ (by omega)
  have e3 : (((1 + r : Nat) : Int)) = 1 + (r : Int) := by omega
  rw [e3]
  have m0 : ¬ (m : Int) = 0 := by omega
  have m00 : ¬ m = 0 := by omega
  clear hmm hdd a1 hp hr hr8 e3
  go_enter Try.func56, Try.ntmps56
  go_wp2_with fail
  go_ret
  exact ⟨rfl, rfl⟩
end Go.Proofs.Ytodcjokafjdhdaa.igm
