/-
  Chapter 23 (lease): Encode of the document, by a walk of its text. Conditions: none but those typed.
-/
import Derived.Test.YtdpmjghdmpaehaaLsB
namespace Go.Proofs.Ytdpmjghdmpaehaa.ls
set_option linter.unusedVariables false
set_option linter.unusedSimpArgs false
open Go.ChangeShapes Go.WideShapes Go.ChangeAt Go.RowKit Go.IntWalk Go.Lib
theorem ref_four_len (x : Int) : (ref.four x).length = 4 := rfl
theorem own_none {k : IntKind} {e : TypeId} {w : World} {b : Nat} {l : List Int} {A : Option Addr} {n c : Nat} (h : Own k e w b (.slice A n c) l) : A = none → c = 0 := by
  intro e
  rcases h.1.2 with ⟨hv, _⟩ | ⟨g', cap', cur, hv, _⟩
  · injection hv
  · rw [e] at hv; injection hv with h1; cases h1
theorem addr1 (w : World) (k v : Int) (hk : 0 ≤ k ∧ k ≤ 255) :
    Calls Try.prog 37 #[.int .u8 k, .int .u32 v] w fun x w' => ∃ A n c, x = .returned (.slice A n c) ∧ Rd .u8 w' A n (opt k v) ∧ (A = none → c = 0) ∧ Only [] w w' := by
  by_cases hv : v = 0
  · have hb : (v == 0) = true := by simp [hv]
    have HV := hid hv; clear hv
    go_enter Try.func37, Try.ntmps37
    go_wp2
    go_ret
    refine ⟨none, 0, 0, rfl, ?_, fun _ => rfl, Only.refl _ _⟩
    rw [show opt k v = [] from by unfold opt; rw [if_pos HV.out]]
    exact Rd.nil _ _ _
  · have hb : (v == 0) = false := by simp [hv]
    have HV := hid hv; clear hv
    have HW : Hid (∀ z ∈ [k, 4], (Lit.int .u8 z).wf = true) := hid (by
      intro z hz
      simp only [List.mem_cons, List.not_mem_nil, or_false] at hz
      apply (Lit.wf_int_iff .u8 z).2
      show 0 ≤ z ∧ z ≤ 255
      omega)
    have V := hid (Own.lit .u8 5 w w.heap.size [k, 4] #[.int .u8 k, .int .u8 4] 2 rfl rfl (Nat.le_refl _) (by simp [maxLen]) HW.out)
    have Q0 : Hid (Only [] w (w.alloc (.cells #[.int .u8 k, .int .u8 4] 5))) := hid ((Only.refl [] w).alloc _)
    go_enter Try.func37, Try.ntmps37
    go_wp2_with fail
    refine (ref.four1 _ v).mono ?_
    rintro x w2 ⟨g2, rfl, h2, o2⟩
    have V2 := hid (V.out.only_nil o2); have F := hid h2.rd; have Q2 := hid (Q0.out.trans o2)
    clear h2 o2
    go_wp2_with (at_builtin; refine wpList_app _ rfl (.tmp 8) (.tmp 10) _ rfl wrt.elemB w.heap.size _ _ rfl V2.out (some ⟨g2, 0, none⟩) 4 4 (ref.four v) rfl F.out (by intro e; cases e) (by simp) (by simp [maxLen]) Q2.out.size ?_)
    intro v3 w3 hv3 hg3 hb3
    have Q3 := hid (Q2.out.own_grown V2.out hg3 (Nat.le_refl _))
    obtain ⟨A3, c3, e3, _, _, r3, _⟩ := hv3.slice
    subst e3
    have HZ := hid (own_none hv3)
    have R3 := hid r3
    clear hv3 hg3 hb3 r3
    go_wp2_with fail
    go_ret
    refine ⟨A3, _, c3, rfl, ?_, HZ.out, Q3.out⟩
    rw [show opt k v = [k, 4] ++ ref.four v from by unfold opt; rw [if_neg HV.out]; rfl]
    exact R3.out
theorem lit0 (W : World) {g : Nat} (op : Int) (hsz : g < W.heap.size) (h : ∀ z ∈ [op, 1, 6, 0], (Lit.int .u8 z).wf = true) : Own .u8 5 (W.alloc (.cells #[.int .u8 op, .int .u8 1, .int .u8 6, .int .u8 0] 5)) (g + 1) (.slice (some ⟨W.heap.size, 0, none⟩) 4 4) [op, 1, 6, 0] :=
  Own.lit .u8 5 W (g + 1) [op, 1, 6, 0] #[.int .u8 op, .int .u8 1, .int .u8 6, .int .u8 0] 4 rfl rfl hsz (by simp [maxLen]) h
set_option maxRecDepth 100000 in
set_option maxHeartbeats 16000000 in
theorem enc2 (w : World) (op id yo c0 c1 c2 c3 c4 c5 ty sv ak ti mk ro re : Int) (hg : Good op ty ti) (hc : ∀ z ∈ [c0, c1, c2, c3, c4, c5], (Lit.int .u8 z).wf = true) :
    Calls Try.prog 11 #[.agg #[.int .i64 op, .int .u32 id, .int .u32 yo, .int .u8 c0, .int .u8 c1, .int .u8 c2, .int .u8 c3, .int .u8 c4, .int .u8 c5, .int .i64 ty, .int .u32 sv, .int .u32 ak, .int .i64 ti, .int .u32 mk, .int .u32 ro, .int .u32 re]] w fun x w' => ∃ v, x = .returned (.tuple #[v, .int .i64 0]) ∧ Own .u8 5 w' w.heap.size v (enc op id yo c0 c1 c2 c3 c4 c5 ty sv ak ti mk ro re) ∧ Only [] w w' := by
  have HCc := hid hc
  have hty := hg.2.1; have hti := hg.2.2
  have hop := hg.1
  clear hg hc
  have OB0 : Hid (Ob (w.alloc (.cells #[.int .i64 op, .int .u32 id, .int .u32 yo, .int .u8 c0, .int .u8 c1, .int .u8 c2, .int .u8 c3, .int .u8 c4, .int .u8 c5, .int .i64 ty, .int .u32 sv, .int .u32 ak, .int .i64 ti, .int .u32 mk, .int .u32 ro, .int .u32 re] 27)) w.heap.size 27 #[.int .i64 op, .int .u32 id, .int .u32 yo, .int .u8 c0, .int .u8 c1, .int .u8 c2, .int .u8 c3, .int .u8 c4, .int .u8 c5, .int .i64 ty, .int .u32 sv, .int .u32 ak, .int .i64 ti, .int .u32 mk, .int .u32 ro, .int .u32 re]) := hid (Ob.new _ _ _)
  have Q1 : Hid (Only [] w (w.alloc (.cells #[.int .i64 op, .int .u32 id, .int .u32 yo, .int .u8 c0, .int .u8 c1, .int .u8 c2, .int .u8 c3, .int .u8 c4, .int .u8 c5, .int .i64 ty, .int .u32 sv, .int .u32 ak, .int .i64 ti, .int .u32 mk, .int .u32 ro, .int .u32 re] 27))) := hid ((Only.refl [] w).alloc _)
  have hopm : op % 256 = op := by omega
  have hopw : IntKind.u8.wrap op = op := by rw [IntKind.wrap_u8]; omega
  have htym : ty % 256 = ty := by omega
  have htim : ti % 4294967296 = ti := by omega
  have n1 : ¬ op < 1 := by omega
  have n2 : ¬ 2 < op := by omega
  have n3 : ¬ ty < 1 := by omega
  have n4 : ¬ 7 < ty := by omega
  have n5 : ¬ ti < 0 := by omega
  have n6 : ¬ 2147483647 < ti := by omega
  have HW4 : Hid (∀ z ∈ [op, 1, 6, 0], (Lit.int .u8 z).wf = true) := hid (by
    intro z hz
    simp only [List.mem_cons, List.not_mem_nil, or_false] at hz
    apply (Lit.wf_int_iff .u8 z).2
    show 0 ≤ z ∧ z ≤ 255
    omega)
  clear hop
  go_enter Try.func11, Try.ntmps11
  have k0 := OB0.out.cell 0; have k1 := OB0.out.cell 1; have k2 := OB0.out.cell 2; have k3 := OB0.out.cell 3; have k4 := OB0.out.cell 4; have k5 := OB0.out.cell 5; have k6 := OB0.out.cell 6; have k7 := OB0.out.cell 7; have k8 := OB0.out.cell 8; have k9 := OB0.out.cell 9; have k10 := OB0.out.cell 10; have k11 := OB0.out.cell 11; have k12 := OB0.out.cell 12; have k13 := OB0.out.cell 13; have k14 := OB0.out.cell 14; have k15 := OB0.out.cell 15
  go_wp2_with fail
  clear k0 k1 k2 k3 k4 k5 k6 k7 k8 k9 k10 k11 k12 k13 k14 k15
  clear n1 n2 n3 n4 n5 n6
  refine wp_region_noPanic ?_
  refine rgn.regionT (R := AnyW) (by kernel_rfl) (fun _ => AnyW.any _ _) (fun _ _ _ _ _ => AnyW.any _ _) (fun _ _ _ _ _ h => h) (.y 0 (.y 4 (.b 1 5 (.y 2 (.b 3 5 (.e 5 (.e 6 (.e 7 (.e 8 .z)))) (.b 3 6 (.e 6 (.e 7 (.e 8 .z))) (.e 3 (.e 7 (.e 8 .z)))))) (.b 1 6 (.y 2 (.b 3 6 (.e 6 (.e 7 (.e 8 .z))) (.e 3 (.e 7 (.e 8 .z))))) (.e 1 (.y 2 (.e 3 (.e 7 (.e 8 .z))))))))) (by kernel_rfl) (fun W hWd => ?_)
  have HWd := hid hWd; clear hWd
  have Q : Hid (Only [] w W) := hid (Only.eq_drew Q1.out HWd.out)
  have OB : Hid (Ob W w.heap.size 27 #[.int .i64 op, .int .u32 id, .int .u32 yo, .int .u8 c0, .int .u8 c1, .int .u8 c2, .int .u8 c3, .int .u8 c4, .int .u8 c5, .int .i64 ty, .int .u32 sv, .int .u32 ak, .int .i64 ti, .int .u32 mk, .int .u32 ro, .int .u32 re]) := hid (Ob.eq_drew OB0.out HWd.out)
  clear HWd Q1 OB0
  refine rgn.Walk.ys (v := ?_) rfl rfl rfl ?_ ?_
  rotate_left 1
  · intro W' hW'
    go_simp
    try with_reducible rfl
  try simp only [Act.put, List.setIfInBounds_toArray, List.set_cons_zero, List.set_cons_succ]
  refine rgn.Walk.ys (v := ?_) rfl rfl rfl ?_ ?_
  rotate_left 1
  · intro W' hW'
    go_simp
    try with_reducible rfl
  try simp only [Act.put, List.setIfInBounds_toArray, List.set_cons_zero, List.set_cons_succ]
  refine rgn.Walk.bs ?_ ?_
  · refine rgn.stepE rfl rfl (fun K hK => ?_)
    have qq := OB.out.cell 0
    go_simp
    refine hK _ _ (AnyW.any _ _) ?_
    clear hK K qq
    try simp only [Act.put, List.setIfInBounds_toArray, List.set_cons_zero, List.set_cons_succ]
    refine rgn.Walk.ys (v := ?_) rfl rfl rfl ?_ ?_
    rotate_left 1
    · intro W' hW'
      go_simp
      try with_reducible rfl
    try simp only [Act.put, List.setIfInBounds_toArray, List.set_cons_zero, List.set_cons_succ]
    refine rgn.Walk.bs ?_ ?_
    · refine rgn.stepE rfl rfl (fun K hK => ?_)
      go_simp
      refine hK _ _ (AnyW.any _ _) ?_
      clear hK K
      have V := hid (lit0 _ op OB.out.lt HW4.out)
      have Q := hid (Q.out.alloc (.cells #[.int .u8 op, .int .u8 1, .int .u8 6, .int .u8 0] 5)); have OB := hid (OB.out.alloc (.cells #[.int .u8 op, .int .u8 1, .int .u8 6, .int .u8 0] 5))
      try simp only [Act.put, List.setIfInBounds_toArray, List.set_cons_zero, List.set_cons_succ]
      refine rgn.Walk.es ?_
      refine rgn.stepE rfl rfl (fun K hK => ?_)
      have qq := OB.out.cell 1
      go_simp
      refine hK _ _ (AnyW.any _ _) ?_
      clear hK K qq
      try simp only [Act.put, List.setIfInBounds_toArray, List.set_cons_zero, List.set_cons_succ]
      refine rgn.Walk.es ?_
      refine rgn.stepE rfl rfl (fun K hK => ?_)
      go_simp
      refine (ref.four1 _ id).mono ?_
      rintro x w6 ⟨g6, rfl, h6, o6⟩
      refine hK _ _ (AnyW.any _ _) ?_
      clear hK K
      have F := hid h6.rd
      have V := hid (V.out.only_nil o6)
      have Q := hid (Q.out.trans o6); have OB := hid (OB.out.only o6 (by simp))
      clear h6 o6
      try simp only [Act.put, List.setIfInBounds_toArray, List.set_cons_zero, List.set_cons_succ]
      refine rgn.Walk.es ?_
      refine rgn.stepE rfl rfl (fun K hK => ?_)
      refine opApp rfl (.tmp 36) (.tmp 39) _ rfl wrt.elemB (w.heap.size + 1) _ _ rfl V.out (some ⟨g6, 0, none⟩) 4 4 (ref.four id) rfl F.out (by intro e; cases e) (by simp) (by simp [maxLen]) OB.out.lt ?_
      intro v7 w7 hv7 hg7 hb7
      refine hK _ _ (AnyW.any _ _) ?_
      clear hK K
      have Q := hid (Q.out.own_grown V.out hg7 (by omega)); have OB := hid (OB.out.grown hg7 (fun h => by have := (V.out.lt _ h).1; omega)); have V := hid hv7
      clear hv7 hg7 hb7 F
      try simp only [Act.put, List.setIfInBounds_toArray, List.set_cons_zero, List.set_cons_succ]
      refine rgn.Walk.es ?_
      refine rgn.stepE rfl rfl (fun K hK => ?_)
      go_simp
      refine hK _ _ (AnyW.any _ _) ?_
      clear hK K
      try simp only [Act.put, List.setIfInBounds_toArray, List.set_cons_zero, List.set_cons_succ]
      refine rgn.Walk.zs (NoPanic.normal ?_)
      go_wp2_with (at_builtin; refine wpList_app0 (zr 8) rfl (.tmp 41) (.const (.int .i64 8)) _ _ rfl wrt.elemB Try.underlying3 (w.heap.size + 1) _ _ rfl V.out 8 rfl rfl (by omega) (by simp) (by decide) (by simp [zr_len, ref_four_len]) (by simp [zr_len, ref_four_len, maxLen]) OB.out.lt ?_)
      intro v4 w4 hv4 hg4 hb4
      have Q := hid (Q.out.own_grown V.out hg4 (by omega)); have OB := hid (OB.out.grown hg4 (fun h => by have := (V.out.lt _ h).1; omega)); have V := hid hv4
      clear hv4 hg4 hb4
      have k0 := OB.out.cell 0; have k1 := OB.out.cell 1; have k2 := OB.out.cell 2; have k3 := OB.out.cell 3; have k4 := OB.out.cell 4; have k5 := OB.out.cell 5; have k6 := OB.out.cell 6; have k7 := OB.out.cell 7; have k8 := OB.out.cell 8; have k9 := OB.out.cell 9; have k10 := OB.out.cell 10; have k11 := OB.out.cell 11; have k12 := OB.out.cell 12; have k13 := OB.out.cell 13; have k14 := OB.out.cell 14; have k15 := OB.out.cell 15
      go_wp2_with fail
      clear k0 k1 k2 k3 k4 k5 k6 k7 k8 k9 k10 k11 k12 k13 k14 k15
      refine (ref.four1 _ yo).mono ?_
      rintro x w5a ⟨g5, rfl, h5, o5⟩
      have F := hid h5.rd; have V := hid (V.out.only_nil o5); have Q := hid (Q.out.trans o5); have OB := hid (OB.out.only o5 (by simp))
      clear h5 o5
      go_wp2_with (at_builtin; refine wpList_app _ rfl (.tmp 43) (.tmp 46) _ rfl wrt.elemB (w.heap.size + 1) _ _ rfl V.out (some ⟨g5, 0, none⟩) 4 4 (ref.four yo) rfl F.out (by intro e; cases e) (by simp [zr_len, ref_four_len]; try omega) (by simp [zr_len, ref_four_len, maxLen]; try omega) OB.out.lt ?_)
      intro v5 w5 hv5 hg5 hb5
      have Q := hid (Q.out.own_grown V.out hg5 (by omega)); have OB := hid (OB.out.grown hg5 (fun h => by have := (V.out.lt _ h).1; omega)); have V := hid hv5
      clear hv5 hg5 hb5
      clear F
      go_wp2_with (at_builtin; refine wpList_app0 (zr 8) rfl (.tmp 48) (.const (.int .i64 8)) _ _ rfl wrt.elemB Try.underlying3 (w.heap.size + 1) _ _ rfl V.out 8 rfl rfl (by omega) (by simp) (by decide) (by simp [zr_len, ref_four_len]) (by simp [zr_len, ref_four_len, maxLen]) OB.out.lt ?_)
      intro v6 w6 hv6 hg6 hb6
      have Q := hid (Q.out.own_grown V.out hg6 (by omega)); have OB := hid (OB.out.grown hg6 (fun h => by have := (V.out.lt _ h).1; omega)); have V := hid hv6
      clear hv6 hg6 hb6
      have HCl : Hid (Rd .u8 w6 (some ⟨w.heap.size, 3, none⟩) 6 [c0, c1, c2, c3, c4, c5]) := hid ⟨rfl, HCc.out, fun _ => ⟨w.heap.size, 3, rfl, fun j hj => by
        rcases (by omega : j = 0 ∨ j = 1 ∨ j = 2 ∨ j = 3 ∨ j = 4 ∨ j = 5) with rfl | rfl | rfl | rfl | rfl | rfl
        · exact OB.out.cell 3
        · exact OB.out.cell 4
        · exact OB.out.cell 5
        · exact OB.out.cell 6
        · exact OB.out.cell 7
        · exact OB.out.cell 8⟩⟩
      go_wp2_with (at_builtin; refine wpList_app _ rfl (.tmp 50) (.tmp 52) _ rfl wrt.elemB (w.heap.size + 1) _ _ rfl V.out (some ⟨w.heap.size, 3, none⟩) 6 _ [c0, c1, c2, c3, c4, c5] rfl HCl.out (by intro e; cases e) (by simp [zr_len, ref_four_len]; try omega) (by simp [zr_len, ref_four_len, maxLen]; try omega) OB.out.lt ?_)
      intro v7 w7 hv7 hg7 hb7
      have Q := hid (Q.out.own_grown V.out hg7 (by omega)); have OB := hid (OB.out.grown hg7 (fun h => by have := (V.out.lt _ h).1; omega)); have V := hid hv7
      clear hv7 hg7 hb7
      clear HCl
      go_wp2_with (at_builtin; refine wpList_app0 (zr 202) rfl (.tmp 54) (.const (.int .i64 202)) _ _ rfl wrt.elemB Try.underlying3 (w.heap.size + 1) _ _ rfl V.out 202 rfl rfl (by omega) (by simp) (by decide) (by simp [zr_len, ref_four_len]) (by simp [zr_len, ref_four_len, maxLen]) OB.out.lt ?_)
      intro v8 w8 hv8 hg8 hb8
      have Q := hid (Q.out.own_grown V.out hg8 (by omega)); have OB := hid (OB.out.grown hg8 (fun h => by have := (V.out.lt _ h).1; omega)); have V := hid hv8
      clear hv8 hg8 hb8
      have k0 := OB.out.cell 0; have k1 := OB.out.cell 1; have k2 := OB.out.cell 2; have k3 := OB.out.cell 3; have k4 := OB.out.cell 4; have k5 := OB.out.cell 5; have k6 := OB.out.cell 6; have k7 := OB.out.cell 7; have k8 := OB.out.cell 8; have k9 := OB.out.cell 9; have k10 := OB.out.cell 10; have k11 := OB.out.cell 11; have k12 := OB.out.cell 12; have k13 := OB.out.cell 13; have k14 := OB.out.cell 14; have k15 := OB.out.cell 15
      have HW7 : Hid (∀ z ∈ [99, 130, 83, 99, 53, 1, ty], (Lit.int .u8 z).wf = true) := hid (by
        intro z hz
        simp only [List.mem_cons, List.not_mem_nil, or_false] at hz
        apply (Lit.wf_int_iff .u8 z).2
        show 0 ≤ z ∧ z ≤ 255
        omega)
      have F := hid (Own.lit .u8 5 w8 0 [99, 130, 83, 99, 53, 1, ty] #[.int .u8 99, .int .u8 130, .int .u8 83, .int .u8 99, .int .u8 53, .int .u8 1, .int .u8 ty] 7 rfl rfl (Nat.zero_le _) (by simp [maxLen]) HW7.out).rd
      have V := hid (V.out.alloc (.cells #[.int .u8 99, .int .u8 130, .int .u8 83, .int .u8 99, .int .u8 53, .int .u8 1, .int .u8 ty] 5)); have Q := hid (Q.out.alloc (.cells #[.int .u8 99, .int .u8 130, .int .u8 83, .int .u8 99, .int .u8 53, .int .u8 1, .int .u8 ty] 5)); have OB := hid (OB.out.alloc (.cells #[.int .u8 99, .int .u8 130, .int .u8 83, .int .u8 99, .int .u8 53, .int .u8 1, .int .u8 ty] 5))
      go_wp2_with (at_builtin; refine wpList_app _ rfl (.tmp 56) (.tmp 60) _ rfl wrt.elemB (w.heap.size + 1) _ _ rfl V.out (some ⟨w8.heap.size, 0, none⟩) 7 7 [99, 130, 83, 99, 53, 1, ty] rfl F.out (by intro e; cases e) (by simp [zr_len, ref_four_len]; try omega) (by simp [zr_len, ref_four_len, maxLen]; try omega) OB.out.lt ?_)
      intro v9 w9 hv9 hg9 hb9
      have Q := hid (Q.out.own_grown V.out hg9 (by omega)); have OB := hid (OB.out.grown hg9 (fun h => by have := (V.out.lt _ h).1; omega)); have V := hid hv9
      clear hv9 hg9 hb9
      clear F k0 k1 k2 k3 k4 k5 k6 k7 k8 k9 k10 k11 k12 k13 k14 k15
      have k0 := OB.out.cell 0; have k1 := OB.out.cell 1; have k2 := OB.out.cell 2; have k3 := OB.out.cell 3; have k4 := OB.out.cell 4; have k5 := OB.out.cell 5; have k6 := OB.out.cell 6; have k7 := OB.out.cell 7; have k8 := OB.out.cell 8; have k9 := OB.out.cell 9; have k10 := OB.out.cell 10; have k11 := OB.out.cell 11; have k12 := OB.out.cell 12; have k13 := OB.out.cell 13; have k14 := OB.out.cell 14; have k15 := OB.out.cell 15
      go_wp2_with fail
      clear k0 k1 k2 k3 k4 k5 k6 k7 k8 k9 k10 k11 k12 k13 k14 k15
      refine (addr1 _ 54 sv (by omega)).mono ?_
      rintro x w10a ⟨A10, n10, c10, rfl, hr10, hz10, o10⟩
      have R10 := hid hr10; have Z10 := hid hz10; have L10 := hr10.len
      have hl10 := opt_len 54 sv
      have V := hid (V.out.only_nil o10); have Q := hid (Q.out.trans o10); have OB := hid (OB.out.only o10 (by simp))
      clear hr10 hz10 o10
      go_wp2_with (at_builtin; refine wpList_app _ rfl (.tmp 62) (.tmp 65) _ rfl wrt.elemB (w.heap.size + 1) _ _ rfl V.out A10 n10 c10 (opt 54 sv) rfl R10.out Z10.out (by simp [zr_len, ref_four_len]; omega) (by simp [zr_len, ref_four_len, maxLen]; omega) OB.out.lt ?_)
      intro v10 w10 hv10 hg10 hb10
      have Q := hid (Q.out.own_grown V.out hg10 (by omega)); have OB := hid (OB.out.grown hg10 (fun h => by have := (V.out.lt _ h).1; omega)); have V := hid hv10
      clear hv10 hg10 hb10 R10 Z10 L10
      have k0 := OB.out.cell 0; have k1 := OB.out.cell 1; have k2 := OB.out.cell 2; have k3 := OB.out.cell 3; have k4 := OB.out.cell 4; have k5 := OB.out.cell 5; have k6 := OB.out.cell 6; have k7 := OB.out.cell 7; have k8 := OB.out.cell 8; have k9 := OB.out.cell 9; have k10 := OB.out.cell 10; have k11 := OB.out.cell 11; have k12 := OB.out.cell 12; have k13 := OB.out.cell 13; have k14 := OB.out.cell 14; have k15 := OB.out.cell 15
      go_wp2_with fail
      clear k0 k1 k2 k3 k4 k5 k6 k7 k8 k9 k10 k11 k12 k13 k14 k15
      refine (addr1 _ 50 ak (by omega)).mono ?_
      rintro x w11a ⟨A11, n11, c11, rfl, hr11, hz11, o11⟩
      have R11 := hid hr11; have Z11 := hid hz11; have L11 := hr11.len
      have hl11 := opt_len 50 ak
      have V := hid (V.out.only_nil o11); have Q := hid (Q.out.trans o11); have OB := hid (OB.out.only o11 (by simp))
      clear hr11 hz11 o11
      go_wp2_with (at_builtin; refine wpList_app _ rfl (.tmp 67) (.tmp 70) _ rfl wrt.elemB (w.heap.size + 1) _ _ rfl V.out A11 n11 c11 (opt 50 ak) rfl R11.out Z11.out (by simp [zr_len, ref_four_len]; omega) (by simp [zr_len, ref_four_len, maxLen]; omega) OB.out.lt ?_)
      intro v11 w11 hv11 hg11 hb11
      have Q := hid (Q.out.own_grown V.out hg11 (by omega)); have OB := hid (OB.out.grown hg11 (fun h => by have := (V.out.lt _ h).1; omega)); have V := hid hv11
      clear hv11 hg11 hb11 R11 Z11 L11
      have k0 := OB.out.cell 0; have k1 := OB.out.cell 1; have k2 := OB.out.cell 2; have k3 := OB.out.cell 3; have k4 := OB.out.cell 4; have k5 := OB.out.cell 5; have k6 := OB.out.cell 6; have k7 := OB.out.cell 7; have k8 := OB.out.cell 8; have k9 := OB.out.cell 9; have k10 := OB.out.cell 10; have k11 := OB.out.cell 11; have k12 := OB.out.cell 12; have k13 := OB.out.cell 13; have k14 := OB.out.cell 14; have k15 := OB.out.cell 15
      go_wp2_with fail
      clear k0 k1 k2 k3 k4 k5 k6 k7 k8 k9 k10 k11 k12 k13 k14 k15
      refine (addr1 _ 51 ti (by omega)).mono ?_
      rintro x w12a ⟨A12, n12, c12, rfl, hr12, hz12, o12⟩
      have R12 := hid hr12; have Z12 := hid hz12; have L12 := hr12.len
      have hl12 := opt_len 51 ti
      have V := hid (V.out.only_nil o12); have Q := hid (Q.out.trans o12); have OB := hid (OB.out.only o12 (by simp))
      clear hr12 hz12 o12
      go_wp2_with (at_builtin; refine wpList_app _ rfl (.tmp 72) (.tmp 76) _ rfl wrt.elemB (w.heap.size + 1) _ _ rfl V.out A12 n12 c12 (opt 51 ti) rfl R12.out Z12.out (by simp [zr_len, ref_four_len]; omega) (by simp [zr_len, ref_four_len, maxLen]; omega) OB.out.lt ?_)
      intro v12 w12 hv12 hg12 hb12
      have Q := hid (Q.out.own_grown V.out hg12 (by omega)); have OB := hid (OB.out.grown hg12 (fun h => by have := (V.out.lt _ h).1; omega)); have V := hid hv12
      clear hv12 hg12 hb12 R12 Z12 L12
      have k0 := OB.out.cell 0; have k1 := OB.out.cell 1; have k2 := OB.out.cell 2; have k3 := OB.out.cell 3; have k4 := OB.out.cell 4; have k5 := OB.out.cell 5; have k6 := OB.out.cell 6; have k7 := OB.out.cell 7; have k8 := OB.out.cell 8; have k9 := OB.out.cell 9; have k10 := OB.out.cell 10; have k11 := OB.out.cell 11; have k12 := OB.out.cell 12; have k13 := OB.out.cell 13; have k14 := OB.out.cell 14; have k15 := OB.out.cell 15
      go_wp2_with fail
      clear k0 k1 k2 k3 k4 k5 k6 k7 k8 k9 k10 k11 k12 k13 k14 k15
      refine (addr1 _ 1 mk (by omega)).mono ?_
      rintro x w13a ⟨A13, n13, c13, rfl, hr13, hz13, o13⟩
      have R13 := hid hr13; have Z13 := hid hz13; have L13 := hr13.len
      have hl13 := opt_len 1 mk
      have V := hid (V.out.only_nil o13); have Q := hid (Q.out.trans o13); have OB := hid (OB.out.only o13 (by simp))
      clear hr13 hz13 o13
      go_wp2_with (at_builtin; refine wpList_app _ rfl (.tmp 78) (.tmp 81) _ rfl wrt.elemB (w.heap.size + 1) _ _ rfl V.out A13 n13 c13 (opt 1 mk) rfl R13.out Z13.out (by simp [zr_len, ref_four_len]; omega) (by simp [zr_len, ref_four_len, maxLen]; omega) OB.out.lt ?_)
      intro v13 w13 hv13 hg13 hb13
      have Q := hid (Q.out.own_grown V.out hg13 (by omega)); have OB := hid (OB.out.grown hg13 (fun h => by have := (V.out.lt _ h).1; omega)); have V := hid hv13
      clear hv13 hg13 hb13 R13 Z13 L13
      have k0 := OB.out.cell 0; have k1 := OB.out.cell 1; have k2 := OB.out.cell 2; have k3 := OB.out.cell 3; have k4 := OB.out.cell 4; have k5 := OB.out.cell 5; have k6 := OB.out.cell 6; have k7 := OB.out.cell 7; have k8 := OB.out.cell 8; have k9 := OB.out.cell 9; have k10 := OB.out.cell 10; have k11 := OB.out.cell 11; have k12 := OB.out.cell 12; have k13 := OB.out.cell 13; have k14 := OB.out.cell 14; have k15 := OB.out.cell 15
      go_wp2_with fail
      clear k0 k1 k2 k3 k4 k5 k6 k7 k8 k9 k10 k11 k12 k13 k14 k15
      refine (addr1 _ 3 ro (by omega)).mono ?_
      rintro x w14a ⟨A14, n14, c14, rfl, hr14, hz14, o14⟩
      have R14 := hid hr14; have Z14 := hid hz14; have L14 := hr14.len
      have hl14 := opt_len 3 ro
      have V := hid (V.out.only_nil o14); have Q := hid (Q.out.trans o14); have OB := hid (OB.out.only o14 (by simp))
      clear hr14 hz14 o14
      go_wp2_with (at_builtin; refine wpList_app _ rfl (.tmp 83) (.tmp 86) _ rfl wrt.elemB (w.heap.size + 1) _ _ rfl V.out A14 n14 c14 (opt 3 ro) rfl R14.out Z14.out (by simp [zr_len, ref_four_len]; omega) (by simp [zr_len, ref_four_len, maxLen]; omega) OB.out.lt ?_)
      intro v14 w14 hv14 hg14 hb14
      have Q := hid (Q.out.own_grown V.out hg14 (by omega)); have OB := hid (OB.out.grown hg14 (fun h => by have := (V.out.lt _ h).1; omega)); have V := hid hv14
      clear hv14 hg14 hb14 R14 Z14 L14
      have k0 := OB.out.cell 0; have k1 := OB.out.cell 1; have k2 := OB.out.cell 2; have k3 := OB.out.cell 3; have k4 := OB.out.cell 4; have k5 := OB.out.cell 5; have k6 := OB.out.cell 6; have k7 := OB.out.cell 7; have k8 := OB.out.cell 8; have k9 := OB.out.cell 9; have k10 := OB.out.cell 10; have k11 := OB.out.cell 11; have k12 := OB.out.cell 12; have k13 := OB.out.cell 13; have k14 := OB.out.cell 14; have k15 := OB.out.cell 15
      go_wp2_with fail
      clear k0 k1 k2 k3 k4 k5 k6 k7 k8 k9 k10 k11 k12 k13 k14 k15
      refine (addr1 _ 6 re (by omega)).mono ?_
      rintro x w15a ⟨A15, n15, c15, rfl, hr15, hz15, o15⟩
      have R15 := hid hr15; have Z15 := hid hz15; have L15 := hr15.len
      have hl15 := opt_len 6 re
      have V := hid (V.out.only_nil o15); have Q := hid (Q.out.trans o15); have OB := hid (OB.out.only o15 (by simp))
      clear hr15 hz15 o15
      go_wp2_with (at_builtin; refine wpList_app _ rfl (.tmp 88) (.tmp 91) _ rfl wrt.elemB (w.heap.size + 1) _ _ rfl V.out A15 n15 c15 (opt 6 re) rfl R15.out Z15.out (by simp [zr_len, ref_four_len]; omega) (by simp [zr_len, ref_four_len, maxLen]; omega) OB.out.lt ?_)
      intro v15 w15 hv15 hg15 hb15
      have Q := hid (Q.out.own_grown V.out hg15 (by omega)); have OB := hid (OB.out.grown hg15 (fun h => by have := (V.out.lt _ h).1; omega)); have V := hid hv15
      clear hv15 hg15 hb15 R15 Z15 L15
      have F := hid (Own.lit .u8 5 w15 0 [255] #[.int .u8 255] 1 rfl rfl (Nat.zero_le _) (by simp [maxLen]) (by decide)).rd
      have V := hid (V.out.alloc (.cells #[.int .u8 255] 5)); have Q := hid (Q.out.alloc (.cells #[.int .u8 255] 5)); have OB := hid (OB.out.alloc (.cells #[.int .u8 255] 5))
      go_wp2_with (at_builtin; refine wpList_app _ rfl (.tmp 93) (.tmp 94) _ rfl wrt.elemB (w.heap.size + 1) _ _ rfl V.out (some ⟨w15.heap.size, 0, none⟩) 1 1 [255] rfl F.out (by intro e; cases e) (by simp [zr_len, ref_four_len]; omega) (by simp [zr_len, ref_four_len, maxLen]; omega) OB.out.lt ?_)
      intro v16 w16 hv16 hg16 hb16
      have Q := hid (Q.out.own_grown V.out hg16 (by omega)); have V := hid hv16
      clear hv16 hg16 hb16
      go_wp2
      go_ret2
      refine ⟨v16, rfl, ?_, Q.out⟩
      refine Own.mono_base ?_ (show w.heap.size ≤ w.heap.size + 1 by omega)
      have h9 := V.out
      simpa [enc, head, ref.four] using h9
    · refine rgn.stepE rfl rfl (fun K hK => ?_)
      have qq := OB.out.cell 1
      go_simp
      refine hK _ _ (AnyW.any _ _) ?_
      clear hK K qq
      try simp only [Act.put, List.setIfInBounds_toArray, List.set_cons_zero, List.set_cons_succ]
      refine rgn.Walk.bs ?_ ?_
      · refine rgn.stepE rfl rfl (fun K hK => ?_)
        go_simp
        refine hK _ _ (AnyW.any _ _) ?_
        clear hK K
        have V := hid (lit0 _ op OB.out.lt HW4.out)
        have Q := hid (Q.out.alloc (.cells #[.int .u8 op, .int .u8 1, .int .u8 6, .int .u8 0] 5)); have OB := hid (OB.out.alloc (.cells #[.int .u8 op, .int .u8 1, .int .u8 6, .int .u8 0] 5))
        try simp only [Act.put, List.setIfInBounds_toArray, List.set_cons_zero, List.set_cons_succ]
        refine rgn.Walk.es ?_
        refine rgn.stepE rfl rfl (fun K hK => ?_)
        go_simp
        refine (ref.four1 _ id).mono ?_
        rintro x w6 ⟨g6, rfl, h6, o6⟩
        refine hK _ _ (AnyW.any _ _) ?_
        clear hK K
        have F := hid h6.rd
        have V := hid (V.out.only_nil o6)
        have Q := hid (Q.out.trans o6); have OB := hid (OB.out.only o6 (by simp))
        clear h6 o6
        try simp only [Act.put, List.setIfInBounds_toArray, List.set_cons_zero, List.set_cons_succ]
        refine rgn.Walk.es ?_
        refine rgn.stepE rfl rfl (fun K hK => ?_)
        refine opApp rfl (.tmp 36) (.tmp 39) _ rfl wrt.elemB (w.heap.size + 1) _ _ rfl V.out (some ⟨g6, 0, none⟩) 4 4 (ref.four id) rfl F.out (by intro e; cases e) (by simp) (by simp [maxLen]) OB.out.lt ?_
        intro v7 w7 hv7 hg7 hb7
        refine hK _ _ (AnyW.any _ _) ?_
        clear hK K
        have Q := hid (Q.out.own_grown V.out hg7 (by omega)); have OB := hid (OB.out.grown hg7 (fun h => by have := (V.out.lt _ h).1; omega)); have V := hid hv7
        clear hv7 hg7 hb7 F
        try simp only [Act.put, List.setIfInBounds_toArray, List.set_cons_zero, List.set_cons_succ]
        refine rgn.Walk.es ?_
        refine rgn.stepE rfl rfl (fun K hK => ?_)
        go_simp
        refine hK _ _ (AnyW.any _ _) ?_
        clear hK K
        try simp only [Act.put, List.setIfInBounds_toArray, List.set_cons_zero, List.set_cons_succ]
        refine rgn.Walk.zs (NoPanic.normal ?_)
        go_wp2_with (at_builtin; refine wpList_app0 (zr 8) rfl (.tmp 41) (.const (.int .i64 8)) _ _ rfl wrt.elemB Try.underlying3 (w.heap.size + 1) _ _ rfl V.out 8 rfl rfl (by omega) (by simp) (by decide) (by simp [zr_len, ref_four_len]) (by simp [zr_len, ref_four_len, maxLen]) OB.out.lt ?_)
        intro v4 w4 hv4 hg4 hb4
        have Q := hid (Q.out.own_grown V.out hg4 (by omega)); have OB := hid (OB.out.grown hg4 (fun h => by have := (V.out.lt _ h).1; omega)); have V := hid hv4
        clear hv4 hg4 hb4
        have k0 := OB.out.cell 0; have k1 := OB.out.cell 1; have k2 := OB.out.cell 2; have k3 := OB.out.cell 3; have k4 := OB.out.cell 4; have k5 := OB.out.cell 5; have k6 := OB.out.cell 6; have k7 := OB.out.cell 7; have k8 := OB.out.cell 8; have k9 := OB.out.cell 9; have k10 := OB.out.cell 10; have k11 := OB.out.cell 11; have k12 := OB.out.cell 12; have k13 := OB.out.cell 13; have k14 := OB.out.cell 14; have k15 := OB.out.cell 15
        go_wp2_with fail
        clear k0 k1 k2 k3 k4 k5 k6 k7 k8 k9 k10 k11 k12 k13 k14 k15
        refine (ref.four1 _ yo).mono ?_
        rintro x w5a ⟨g5, rfl, h5, o5⟩
        have F := hid h5.rd; have V := hid (V.out.only_nil o5); have Q := hid (Q.out.trans o5); have OB := hid (OB.out.only o5 (by simp))
        clear h5 o5
        go_wp2_with (at_builtin; refine wpList_app _ rfl (.tmp 43) (.tmp 46) _ rfl wrt.elemB (w.heap.size + 1) _ _ rfl V.out (some ⟨g5, 0, none⟩) 4 4 (ref.four yo) rfl F.out (by intro e; cases e) (by simp [zr_len, ref_four_len]; try omega) (by simp [zr_len, ref_four_len, maxLen]; try omega) OB.out.lt ?_)
        intro v5 w5 hv5 hg5 hb5
        have Q := hid (Q.out.own_grown V.out hg5 (by omega)); have OB := hid (OB.out.grown hg5 (fun h => by have := (V.out.lt _ h).1; omega)); have V := hid hv5
        clear hv5 hg5 hb5
        clear F
        go_wp2_with (at_builtin; refine wpList_app0 (zr 8) rfl (.tmp 48) (.const (.int .i64 8)) _ _ rfl wrt.elemB Try.underlying3 (w.heap.size + 1) _ _ rfl V.out 8 rfl rfl (by omega) (by simp) (by decide) (by simp [zr_len, ref_four_len]) (by simp [zr_len, ref_four_len, maxLen]) OB.out.lt ?_)
        intro v6 w6 hv6 hg6 hb6
        have Q := hid (Q.out.own_grown V.out hg6 (by omega)); have OB := hid (OB.out.grown hg6 (fun h => by have := (V.out.lt _ h).1; omega)); have V := hid hv6
        clear hv6 hg6 hb6
        have HCl : Hid (Rd .u8 w6 (some ⟨w.heap.size, 3, none⟩) 6 [c0, c1, c2, c3, c4, c5]) := hid ⟨rfl, HCc.out, fun _ => ⟨w.heap.size, 3, rfl, fun j hj => by
          rcases (by omega : j = 0 ∨ j = 1 ∨ j = 2 ∨ j = 3 ∨ j = 4 ∨ j = 5) with rfl | rfl | rfl | rfl | rfl | rfl
          · exact OB.out.cell 3
          · exact OB.out.cell 4
          · exact OB.out.cell 5
          · exact OB.out.cell 6
          · exact OB.out.cell 7
          · exact OB.out.cell 8⟩⟩
        go_wp2_with (at_builtin; refine wpList_app _ rfl (.tmp 50) (.tmp 52) _ rfl wrt.elemB (w.heap.size + 1) _ _ rfl V.out (some ⟨w.heap.size, 3, none⟩) 6 _ [c0, c1, c2, c3, c4, c5] rfl HCl.out (by intro e; cases e) (by simp [zr_len, ref_four_len]; try omega) (by simp [zr_len, ref_four_len, maxLen]; try omega) OB.out.lt ?_)
        intro v7 w7 hv7 hg7 hb7
        have Q := hid (Q.out.own_grown V.out hg7 (by omega)); have OB := hid (OB.out.grown hg7 (fun h => by have := (V.out.lt _ h).1; omega)); have V := hid hv7
        clear hv7 hg7 hb7
        clear HCl
        go_wp2_with (at_builtin; refine wpList_app0 (zr 202) rfl (.tmp 54) (.const (.int .i64 202)) _ _ rfl wrt.elemB Try.underlying3 (w.heap.size + 1) _ _ rfl V.out 202 rfl rfl (by omega) (by simp) (by decide) (by simp [zr_len, ref_four_len]) (by simp [zr_len, ref_four_len, maxLen]) OB.out.lt ?_)
        intro v8 w8 hv8 hg8 hb8
        have Q := hid (Q.out.own_grown V.out hg8 (by omega)); have OB := hid (OB.out.grown hg8 (fun h => by have := (V.out.lt _ h).1; omega)); have V := hid hv8
        clear hv8 hg8 hb8
        have k0 := OB.out.cell 0; have k1 := OB.out.cell 1; have k2 := OB.out.cell 2; have k3 := OB.out.cell 3; have k4 := OB.out.cell 4; have k5 := OB.out.cell 5; have k6 := OB.out.cell 6; have k7 := OB.out.cell 7; have k8 := OB.out.cell 8; have k9 := OB.out.cell 9; have k10 := OB.out.cell 10; have k11 := OB.out.cell 11; have k12 := OB.out.cell 12; have k13 := OB.out.cell 13; have k14 := OB.out.cell 14; have k15 := OB.out.cell 15
        have HW7 : Hid (∀ z ∈ [99, 130, 83, 99, 53, 1, ty], (Lit.int .u8 z).wf = true) := hid (by
          intro z hz
          simp only [List.mem_cons, List.not_mem_nil, or_false] at hz
          apply (Lit.wf_int_iff .u8 z).2
          show 0 ≤ z ∧ z ≤ 255
          omega)
        have F := hid (Own.lit .u8 5 w8 0 [99, 130, 83, 99, 53, 1, ty] #[.int .u8 99, .int .u8 130, .int .u8 83, .int .u8 99, .int .u8 53, .int .u8 1, .int .u8 ty] 7 rfl rfl (Nat.zero_le _) (by simp [maxLen]) HW7.out).rd
        have V := hid (V.out.alloc (.cells #[.int .u8 99, .int .u8 130, .int .u8 83, .int .u8 99, .int .u8 53, .int .u8 1, .int .u8 ty] 5)); have Q := hid (Q.out.alloc (.cells #[.int .u8 99, .int .u8 130, .int .u8 83, .int .u8 99, .int .u8 53, .int .u8 1, .int .u8 ty] 5)); have OB := hid (OB.out.alloc (.cells #[.int .u8 99, .int .u8 130, .int .u8 83, .int .u8 99, .int .u8 53, .int .u8 1, .int .u8 ty] 5))
        go_wp2_with (at_builtin; refine wpList_app _ rfl (.tmp 56) (.tmp 60) _ rfl wrt.elemB (w.heap.size + 1) _ _ rfl V.out (some ⟨w8.heap.size, 0, none⟩) 7 7 [99, 130, 83, 99, 53, 1, ty] rfl F.out (by intro e; cases e) (by simp [zr_len, ref_four_len]; try omega) (by simp [zr_len, ref_four_len, maxLen]; try omega) OB.out.lt ?_)
        intro v9 w9 hv9 hg9 hb9
        have Q := hid (Q.out.own_grown V.out hg9 (by omega)); have OB := hid (OB.out.grown hg9 (fun h => by have := (V.out.lt _ h).1; omega)); have V := hid hv9
        clear hv9 hg9 hb9
        clear F k0 k1 k2 k3 k4 k5 k6 k7 k8 k9 k10 k11 k12 k13 k14 k15
        have k0 := OB.out.cell 0; have k1 := OB.out.cell 1; have k2 := OB.out.cell 2; have k3 := OB.out.cell 3; have k4 := OB.out.cell 4; have k5 := OB.out.cell 5; have k6 := OB.out.cell 6; have k7 := OB.out.cell 7; have k8 := OB.out.cell 8; have k9 := OB.out.cell 9; have k10 := OB.out.cell 10; have k11 := OB.out.cell 11; have k12 := OB.out.cell 12; have k13 := OB.out.cell 13; have k14 := OB.out.cell 14; have k15 := OB.out.cell 15
        go_wp2_with fail
        clear k0 k1 k2 k3 k4 k5 k6 k7 k8 k9 k10 k11 k12 k13 k14 k15
        refine (addr1 _ 54 sv (by omega)).mono ?_
        rintro x w10a ⟨A10, n10, c10, rfl, hr10, hz10, o10⟩
        have R10 := hid hr10; have Z10 := hid hz10; have L10 := hr10.len
        have hl10 := opt_len 54 sv
        have V := hid (V.out.only_nil o10); have Q := hid (Q.out.trans o10); have OB := hid (OB.out.only o10 (by simp))
        clear hr10 hz10 o10
        go_wp2_with (at_builtin; refine wpList_app _ rfl (.tmp 62) (.tmp 65) _ rfl wrt.elemB (w.heap.size + 1) _ _ rfl V.out A10 n10 c10 (opt 54 sv) rfl R10.out Z10.out (by simp [zr_len, ref_four_len]; omega) (by simp [zr_len, ref_four_len, maxLen]; omega) OB.out.lt ?_)
        intro v10 w10 hv10 hg10 hb10
        have Q := hid (Q.out.own_grown V.out hg10 (by omega)); have OB := hid (OB.out.grown hg10 (fun h => by have := (V.out.lt _ h).1; omega)); have V := hid hv10
        clear hv10 hg10 hb10 R10 Z10 L10
        have k0 := OB.out.cell 0; have k1 := OB.out.cell 1; have k2 := OB.out.cell 2; have k3 := OB.out.cell 3; have k4 := OB.out.cell 4; have k5 := OB.out.cell 5; have k6 := OB.out.cell 6; have k7 := OB.out.cell 7; have k8 := OB.out.cell 8; have k9 := OB.out.cell 9; have k10 := OB.out.cell 10; have k11 := OB.out.cell 11; have k12 := OB.out.cell 12; have k13 := OB.out.cell 13; have k14 := OB.out.cell 14; have k15 := OB.out.cell 15
        go_wp2_with fail
        clear k0 k1 k2 k3 k4 k5 k6 k7 k8 k9 k10 k11 k12 k13 k14 k15
        refine (addr1 _ 50 ak (by omega)).mono ?_
        rintro x w11a ⟨A11, n11, c11, rfl, hr11, hz11, o11⟩
        have R11 := hid hr11; have Z11 := hid hz11; have L11 := hr11.len
        have hl11 := opt_len 50 ak
        have V := hid (V.out.only_nil o11); have Q := hid (Q.out.trans o11); have OB := hid (OB.out.only o11 (by simp))
        clear hr11 hz11 o11
        go_wp2_with (at_builtin; refine wpList_app _ rfl (.tmp 67) (.tmp 70) _ rfl wrt.elemB (w.heap.size + 1) _ _ rfl V.out A11 n11 c11 (opt 50 ak) rfl R11.out Z11.out (by simp [zr_len, ref_four_len]; omega) (by simp [zr_len, ref_four_len, maxLen]; omega) OB.out.lt ?_)
        intro v11 w11 hv11 hg11 hb11
        have Q := hid (Q.out.own_grown V.out hg11 (by omega)); have OB := hid (OB.out.grown hg11 (fun h => by have := (V.out.lt _ h).1; omega)); have V := hid hv11
        clear hv11 hg11 hb11 R11 Z11 L11
        have k0 := OB.out.cell 0; have k1 := OB.out.cell 1; have k2 := OB.out.cell 2; have k3 := OB.out.cell 3; have k4 := OB.out.cell 4; have k5 := OB.out.cell 5; have k6 := OB.out.cell 6; have k7 := OB.out.cell 7; have k8 := OB.out.cell 8; have k9 := OB.out.cell 9; have k10 := OB.out.cell 10; have k11 := OB.out.cell 11; have k12 := OB.out.cell 12; have k13 := OB.out.cell 13; have k14 := OB.out.cell 14; have k15 := OB.out.cell 15
        go_wp2_with fail
        clear k0 k1 k2 k3 k4 k5 k6 k7 k8 k9 k10 k11 k12 k13 k14 k15
        refine (addr1 _ 51 ti (by omega)).mono ?_
        rintro x w12a ⟨A12, n12, c12, rfl, hr12, hz12, o12⟩
        have R12 := hid hr12; have Z12 := hid hz12; have L12 := hr12.len
        have hl12 := opt_len 51 ti
        have V := hid (V.out.only_nil o12); have Q := hid (Q.out.trans o12); have OB := hid (OB.out.only o12 (by simp))
        clear hr12 hz12 o12
        go_wp2_with (at_builtin; refine wpList_app _ rfl (.tmp 72) (.tmp 76) _ rfl wrt.elemB (w.heap.size + 1) _ _ rfl V.out A12 n12 c12 (opt 51 ti) rfl R12.out Z12.out (by simp [zr_len, ref_four_len]; omega) (by simp [zr_len, ref_four_len, maxLen]; omega) OB.out.lt ?_)
        intro v12 w12 hv12 hg12 hb12
        have Q := hid (Q.out.own_grown V.out hg12 (by omega)); have OB := hid (OB.out.grown hg12 (fun h => by have := (V.out.lt _ h).1; omega)); have V := hid hv12
        clear hv12 hg12 hb12 R12 Z12 L12
        have k0 := OB.out.cell 0; have k1 := OB.out.cell 1; have k2 := OB.out.cell 2; have k3 := OB.out.cell 3; have k4 := OB.out.cell 4; have k5 := OB.out.cell 5; have k6 := OB.out.cell 6; have k7 := OB.out.cell 7; have k8 := OB.out.cell 8; have k9 := OB.out.cell 9; have k10 := OB.out.cell 10; have k11 := OB.out.cell 11; have k12 := OB.out.cell 12; have k13 := OB.out.cell 13; have k14 := OB.out.cell 14; have k15 := OB.out.cell 15
        go_wp2_with fail
        clear k0 k1 k2 k3 k4 k5 k6 k7 k8 k9 k10 k11 k12 k13 k14 k15
        refine (addr1 _ 1 mk (by omega)).mono ?_
        rintro x w13a ⟨A13, n13, c13, rfl, hr13, hz13, o13⟩
        have R13 := hid hr13; have Z13 := hid hz13; have L13 := hr13.len
        have hl13 := opt_len 1 mk
        have V := hid (V.out.only_nil o13); have Q := hid (Q.out.trans o13); have OB := hid (OB.out.only o13 (by simp))
        clear hr13 hz13 o13
        go_wp2_with (at_builtin; refine wpList_app _ rfl (.tmp 78) (.tmp 81) _ rfl wrt.elemB (w.heap.size + 1) _ _ rfl V.out A13 n13 c13 (opt 1 mk) rfl R13.out Z13.out (by simp [zr_len, ref_four_len]; omega) (by simp [zr_len, ref_four_len, maxLen]; omega) OB.out.lt ?_)
        intro v13 w13 hv13 hg13 hb13
        have Q := hid (Q.out.own_grown V.out hg13 (by omega)); have OB := hid (OB.out.grown hg13 (fun h => by have := (V.out.lt _ h).1; omega)); have V := hid hv13
        clear hv13 hg13 hb13 R13 Z13 L13
        have k0 := OB.out.cell 0; have k1 := OB.out.cell 1; have k2 := OB.out.cell 2; have k3 := OB.out.cell 3; have k4 := OB.out.cell 4; have k5 := OB.out.cell 5; have k6 := OB.out.cell 6; have k7 := OB.out.cell 7; have k8 := OB.out.cell 8; have k9 := OB.out.cell 9; have k10 := OB.out.cell 10; have k11 := OB.out.cell 11; have k12 := OB.out.cell 12; have k13 := OB.out.cell 13; have k14 := OB.out.cell 14; have k15 := OB.out.cell 15
        go_wp2_with fail
        clear k0 k1 k2 k3 k4 k5 k6 k7 k8 k9 k10 k11 k12 k13 k14 k15
        refine (addr1 _ 3 ro (by omega)).mono ?_
        rintro x w14a ⟨A14, n14, c14, rfl, hr14, hz14, o14⟩
        have R14 := hid hr14; have Z14 := hid hz14; have L14 := hr14.len
        have hl14 := opt_len 3 ro
        have V := hid (V.out.only_nil o14); have Q := hid (Q.out.trans o14); have OB := hid (OB.out.only o14 (by simp))
        clear hr14 hz14 o14
        go_wp2_with (at_builtin; refine wpList_app _ rfl (.tmp 83) (.tmp 86) _ rfl wrt.elemB (w.heap.size + 1) _ _ rfl V.out A14 n14 c14 (opt 3 ro) rfl R14.out Z14.out (by simp [zr_len, ref_four_len]; omega) (by simp [zr_len, ref_four_len, maxLen]; omega) OB.out.lt ?_)
        intro v14 w14 hv14 hg14 hb14
        have Q := hid (Q.out.own_grown V.out hg14 (by omega)); have OB := hid (OB.out.grown hg14 (fun h => by have := (V.out.lt _ h).1; omega)); have V := hid hv14
        clear hv14 hg14 hb14 R14 Z14 L14
        have k0 := OB.out.cell 0; have k1 := OB.out.cell 1; have k2 := OB.out.cell 2; have k3 := OB.out.cell 3; have k4 := OB.out.cell 4; have k5 := OB.out.cell 5; have k6 := OB.out.cell 6; have k7 := OB.out.cell 7; have k8 := OB.out.cell 8; have k9 := OB.out.cell 9; have k10 := OB.out.cell 10; have k11 := OB.out.cell 11; have k12 := OB.out.cell 12; have k13 := OB.out.cell 13; have k14 := OB.out.cell 14; have k15 := OB.out.cell 15
        go_wp2_with fail
        clear k0 k1 k2 k3 k4 k5 k6 k7 k8 k9 k10 k11 k12 k13 k14 k15
        refine (addr1 _ 6 re (by omega)).mono ?_
        rintro x w15a ⟨A15, n15, c15, rfl, hr15, hz15, o15⟩
        have R15 := hid hr15; have Z15 := hid hz15; have L15 := hr15.len
        have hl15 := opt_len 6 re
        have V := hid (V.out.only_nil o15); have Q := hid (Q.out.trans o15); have OB := hid (OB.out.only o15 (by simp))
        clear hr15 hz15 o15
        go_wp2_with (at_builtin; refine wpList_app _ rfl (.tmp 88) (.tmp 91) _ rfl wrt.elemB (w.heap.size + 1) _ _ rfl V.out A15 n15 c15 (opt 6 re) rfl R15.out Z15.out (by simp [zr_len, ref_four_len]; omega) (by simp [zr_len, ref_four_len, maxLen]; omega) OB.out.lt ?_)
        intro v15 w15 hv15 hg15 hb15
        have Q := hid (Q.out.own_grown V.out hg15 (by omega)); have OB := hid (OB.out.grown hg15 (fun h => by have := (V.out.lt _ h).1; omega)); have V := hid hv15
        clear hv15 hg15 hb15 R15 Z15 L15
        have F := hid (Own.lit .u8 5 w15 0 [255] #[.int .u8 255] 1 rfl rfl (Nat.zero_le _) (by simp [maxLen]) (by decide)).rd
        have V := hid (V.out.alloc (.cells #[.int .u8 255] 5)); have Q := hid (Q.out.alloc (.cells #[.int .u8 255] 5)); have OB := hid (OB.out.alloc (.cells #[.int .u8 255] 5))
        go_wp2_with (at_builtin; refine wpList_app _ rfl (.tmp 93) (.tmp 94) _ rfl wrt.elemB (w.heap.size + 1) _ _ rfl V.out (some ⟨w15.heap.size, 0, none⟩) 1 1 [255] rfl F.out (by intro e; cases e) (by simp [zr_len, ref_four_len]; omega) (by simp [zr_len, ref_four_len, maxLen]; omega) OB.out.lt ?_)
        intro v16 w16 hv16 hg16 hb16
        have Q := hid (Q.out.own_grown V.out hg16 (by omega)); have V := hid hv16
        clear hv16 hg16 hb16
        go_wp2
        go_ret2
        refine ⟨v16, rfl, ?_, Q.out⟩
        refine Own.mono_base ?_ (show w.heap.size ≤ w.heap.size + 1 by omega)
        have h9 := V.out
        simpa [enc, head, ref.four] using h9
      · refine rgn.stepE rfl rfl (fun K hK => ?_)
        go_simp
        refine (ref.four1 _ id).mono ?_
        rintro x w6 ⟨g6, rfl, h6, o6⟩
        refine hK _ _ (AnyW.any _ _) ?_
        clear hK K
        have F := hid h6.rd
        have Q := hid (Q.out.trans o6); have OB := hid (OB.out.only o6 (by simp))
        clear h6 o6
        try simp only [Act.put, List.setIfInBounds_toArray, List.set_cons_zero, List.set_cons_succ]
        refine rgn.Walk.es ?_
        refine rgn.stepE rfl rfl (fun K hK => ?_)
        go_simp
        refine hK _ _ (AnyW.any _ _) ?_
        clear hK K
        have V := hid (lit0 _ op OB.out.lt HW4.out)
        have Q := hid (Q.out.alloc (.cells #[.int .u8 op, .int .u8 1, .int .u8 6, .int .u8 0] 5)); have OB := hid (OB.out.alloc (.cells #[.int .u8 op, .int .u8 1, .int .u8 6, .int .u8 0] 5))
        have F := hid (F.out.alloc (.cells #[.int .u8 op, .int .u8 1, .int .u8 6, .int .u8 0] 5))
        try simp only [Act.put, List.setIfInBounds_toArray, List.set_cons_zero, List.set_cons_succ]
        refine rgn.Walk.es ?_
        refine rgn.stepE rfl rfl (fun K hK => ?_)
        refine opApp rfl (.tmp 36) (.tmp 39) _ rfl wrt.elemB (w.heap.size + 1) _ _ rfl V.out (some ⟨g6, 0, none⟩) 4 4 (ref.four id) rfl F.out (by intro e; cases e) (by simp) (by simp [maxLen]) OB.out.lt ?_
        intro v7 w7 hv7 hg7 hb7
        refine hK _ _ (AnyW.any _ _) ?_
        clear hK K
        have Q := hid (Q.out.own_grown V.out hg7 (by omega)); have OB := hid (OB.out.grown hg7 (fun h => by have := (V.out.lt _ h).1; omega)); have V := hid hv7
        clear hv7 hg7 hb7 F
        try simp only [Act.put, List.setIfInBounds_toArray, List.set_cons_zero, List.set_cons_succ]
        refine rgn.Walk.es ?_
        refine rgn.stepE rfl rfl (fun K hK => ?_)
        go_simp
        refine hK _ _ (AnyW.any _ _) ?_
        clear hK K
        try simp only [Act.put, List.setIfInBounds_toArray, List.set_cons_zero, List.set_cons_succ]
        refine rgn.Walk.zs (NoPanic.normal ?_)
        go_wp2_with (at_builtin; refine wpList_app0 (zr 8) rfl (.tmp 41) (.const (.int .i64 8)) _ _ rfl wrt.elemB Try.underlying3 (w.heap.size + 1) _ _ rfl V.out 8 rfl rfl (by omega) (by simp) (by decide) (by simp [zr_len, ref_four_len]) (by simp [zr_len, ref_four_len, maxLen]) OB.out.lt ?_)
        intro v4 w4 hv4 hg4 hb4
        have Q := hid (Q.out.own_grown V.out hg4 (by omega)); have OB := hid (OB.out.grown hg4 (fun h => by have := (V.out.lt _ h).1; omega)); have V := hid hv4
        clear hv4 hg4 hb4
        have k0 := OB.out.cell 0; have k1 := OB.out.cell 1; have k2 := OB.out.cell 2; have k3 := OB.out.cell 3; have k4 := OB.out.cell 4; have k5 := OB.out.cell 5; have k6 := OB.out.cell 6; have k7 := OB.out.cell 7; have k8 := OB.out.cell 8; have k9 := OB.out.cell 9; have k10 := OB.out.cell 10; have k11 := OB.out.cell 11; have k12 := OB.out.cell 12; have k13 := OB.out.cell 13; have k14 := OB.out.cell 14; have k15 := OB.out.cell 15
        go_wp2_with fail
        clear k0 k1 k2 k3 k4 k5 k6 k7 k8 k9 k10 k11 k12 k13 k14 k15
        refine (ref.four1 _ yo).mono ?_
        rintro x w5a ⟨g5, rfl, h5, o5⟩
        have F := hid h5.rd; have V := hid (V.out.only_nil o5); have Q := hid (Q.out.trans o5); have OB := hid (OB.out.only o5 (by simp))
        clear h5 o5
        go_wp2_with (at_builtin; refine wpList_app _ rfl (.tmp 43) (.tmp 46) _ rfl wrt.elemB (w.heap.size + 1) _ _ rfl V.out (some ⟨g5, 0, none⟩) 4 4 (ref.four yo) rfl F.out (by intro e; cases e) (by simp [zr_len, ref_four_len]; try omega) (by simp [zr_len, ref_four_len, maxLen]; try omega) OB.out.lt ?_)
        intro v5 w5 hv5 hg5 hb5
        have Q := hid (Q.out.own_grown V.out hg5 (by omega)); have OB := hid (OB.out.grown hg5 (fun h => by have := (V.out.lt _ h).1; omega)); have V := hid hv5
        clear hv5 hg5 hb5
        clear F
        go_wp2_with (at_builtin; refine wpList_app0 (zr 8) rfl (.tmp 48) (.const (.int .i64 8)) _ _ rfl wrt.elemB Try.underlying3 (w.heap.size + 1) _ _ rfl V.out 8 rfl rfl (by omega) (by simp) (by decide) (by simp [zr_len, ref_four_len]) (by simp [zr_len, ref_four_len, maxLen]) OB.out.lt ?_)
        intro v6 w6 hv6 hg6 hb6
        have Q := hid (Q.out.own_grown V.out hg6 (by omega)); have OB := hid (OB.out.grown hg6 (fun h => by have := (V.out.lt _ h).1; omega)); have V := hid hv6
        clear hv6 hg6 hb6
        have HCl : Hid (Rd .u8 w6 (some ⟨w.heap.size, 3, none⟩) 6 [c0, c1, c2, c3, c4, c5]) := hid ⟨rfl, HCc.out, fun _ => ⟨w.heap.size, 3, rfl, fun j hj => by
          rcases (by omega : j = 0 ∨ j = 1 ∨ j = 2 ∨ j = 3 ∨ j = 4 ∨ j = 5) with rfl | rfl | rfl | rfl | rfl | rfl
          · exact OB.out.cell 3
          · exact OB.out.cell 4
          · exact OB.out.cell 5
          · exact OB.out.cell 6
          · exact OB.out.cell 7
          · exact OB.out.cell 8⟩⟩
        go_wp2_with (at_builtin; refine wpList_app _ rfl (.tmp 50) (.tmp 52) _ rfl wrt.elemB (w.heap.size + 1) _ _ rfl V.out (some ⟨w.heap.size, 3, none⟩) 6 _ [c0, c1, c2, c3, c4, c5] rfl HCl.out (by intro e; cases e) (by simp [zr_len, ref_four_len]; try omega) (by simp [zr_len, ref_four_len, maxLen]; try omega) OB.out.lt ?_)
        intro v7 w7 hv7 hg7 hb7
        have Q := hid (Q.out.own_grown V.out hg7 (by omega)); have OB := hid (OB.out.grown hg7 (fun h => by have := (V.out.lt _ h).1; omega)); have V := hid hv7
        clear hv7 hg7 hb7
        clear HCl
        go_wp2_with (at_builtin; refine wpList_app0 (zr 202) rfl (.tmp 54) (.const (.int .i64 202)) _ _ rfl wrt.elemB Try.underlying3 (w.heap.size + 1) _ _ rfl V.out 202 rfl rfl (by omega) (by simp) (by decide) (by simp [zr_len, ref_four_len]) (by simp [zr_len, ref_four_len, maxLen]) OB.out.lt ?_)
        intro v8 w8 hv8 hg8 hb8
        have Q := hid (Q.out.own_grown V.out hg8 (by omega)); have OB := hid (OB.out.grown hg8 (fun h => by have := (V.out.lt _ h).1; omega)); have V := hid hv8
        clear hv8 hg8 hb8
        have k0 := OB.out.cell 0; have k1 := OB.out.cell 1; have k2 := OB.out.cell 2; have k3 := OB.out.cell 3; have k4 := OB.out.cell 4; have k5 := OB.out.cell 5; have k6 := OB.out.cell 6; have k7 := OB.out.cell 7; have k8 := OB.out.cell 8; have k9 := OB.out.cell 9; have k10 := OB.out.cell 10; have k11 := OB.out.cell 11; have k12 := OB.out.cell 12; have k13 := OB.out.cell 13; have k14 := OB.out.cell 14; have k15 := OB.out.cell 15
        have HW7 : Hid (∀ z ∈ [99, 130, 83, 99, 53, 1, ty], (Lit.int .u8 z).wf = true) := hid (by
          intro z hz
          simp only [List.mem_cons, List.not_mem_nil, or_false] at hz
          apply (Lit.wf_int_iff .u8 z).2
          show 0 ≤ z ∧ z ≤ 255
          omega)
        have F := hid (Own.lit .u8 5 w8 0 [99, 130, 83, 99, 53, 1, ty] #[.int .u8 99, .int .u8 130, .int .u8 83, .int .u8 99, .int .u8 53, .int .u8 1, .int .u8 ty] 7 rfl rfl (Nat.zero_le _) (by simp [maxLen]) HW7.out).rd
        have V := hid (V.out.alloc (.cells #[.int .u8 99, .int .u8 130, .int .u8 83, .int .u8 99, .int .u8 53, .int .u8 1, .int .u8 ty] 5)); have Q := hid (Q.out.alloc (.cells #[.int .u8 99, .int .u8 130, .int .u8 83, .int .u8 99, .int .u8 53, .int .u8 1, .int .u8 ty] 5)); have OB := hid (OB.out.alloc (.cells #[.int .u8 99, .int .u8 130, .int .u8 83, .int .u8 99, .int .u8 53, .int .u8 1, .int .u8 ty] 5))
        go_wp2_with (at_builtin; refine wpList_app _ rfl (.tmp 56) (.tmp 60) _ rfl wrt.elemB (w.heap.size + 1) _ _ rfl V.out (some ⟨w8.heap.size, 0, none⟩) 7 7 [99, 130, 83, 99, 53, 1, ty] rfl F.out (by intro e; cases e) (by simp [zr_len, ref_four_len]; try omega) (by simp [zr_len, ref_four_len, maxLen]; try omega) OB.out.lt ?_)
        intro v9 w9 hv9 hg9 hb9
        have Q := hid (Q.out.own_grown V.out hg9 (by omega)); have OB := hid (OB.out.grown hg9 (fun h => by have := (V.out.lt _ h).1; omega)); have V := hid hv9
        clear hv9 hg9 hb9
        clear F k0 k1 k2 k3 k4 k5 k6 k7 k8 k9 k10 k11 k12 k13 k14 k15
        have k0 := OB.out.cell 0; have k1 := OB.out.cell 1; have k2 := OB.out.cell 2; have k3 := OB.out.cell 3; have k4 := OB.out.cell 4; have k5 := OB.out.cell 5; have k6 := OB.out.cell 6; have k7 := OB.out.cell 7; have k8 := OB.out.cell 8; have k9 := OB.out.cell 9; have k10 := OB.out.cell 10; have k11 := OB.out.cell 11; have k12 := OB.out.cell 12; have k13 := OB.out.cell 13; have k14 := OB.out.cell 14; have k15 := OB.out.cell 15
        go_wp2_with fail
        clear k0 k1 k2 k3 k4 k5 k6 k7 k8 k9 k10 k11 k12 k13 k14 k15
        refine (addr1 _ 54 sv (by omega)).mono ?_
        rintro x w10a ⟨A10, n10, c10, rfl, hr10, hz10, o10⟩
        have R10 := hid hr10; have Z10 := hid hz10; have L10 := hr10.len
        have hl10 := opt_len 54 sv
        have V := hid (V.out.only_nil o10); have Q := hid (Q.out.trans o10); have OB := hid (OB.out.only o10 (by simp))
        clear hr10 hz10 o10
        go_wp2_with (at_builtin; refine wpList_app _ rfl (.tmp 62) (.tmp 65) _ rfl wrt.elemB (w.heap.size + 1) _ _ rfl V.out A10 n10 c10 (opt 54 sv) rfl R10.out Z10.out (by simp [zr_len, ref_four_len]; omega) (by simp [zr_len, ref_four_len, maxLen]; omega) OB.out.lt ?_)
        intro v10 w10 hv10 hg10 hb10
        have Q := hid (Q.out.own_grown V.out hg10 (by omega)); have OB := hid (OB.out.grown hg10 (fun h => by have := (V.out.lt _ h).1; omega)); have V := hid hv10
        clear hv10 hg10 hb10 R10 Z10 L10
        have k0 := OB.out.cell 0; have k1 := OB.out.cell 1; have k2 := OB.out.cell 2; have k3 := OB.out.cell 3; have k4 := OB.out.cell 4; have k5 := OB.out.cell 5; have k6 := OB.out.cell 6; have k7 := OB.out.cell 7; have k8 := OB.out.cell 8; have k9 := OB.out.cell 9; have k10 := OB.out.cell 10; have k11 := OB.out.cell 11; have k12 := OB.out.cell 12; have k13 := OB.out.cell 13; have k14 := OB.out.cell 14; have k15 := OB.out.cell 15
        go_wp2_with fail
        clear k0 k1 k2 k3 k4 k5 k6 k7 k8 k9 k10 k11 k12 k13 k14 k15
        refine (addr1 _ 50 ak (by omega)).mono ?_
        rintro x w11a ⟨A11, n11, c11, rfl, hr11, hz11, o11⟩
        have R11 := hid hr11; have Z11 := hid hz11; have L11 := hr11.len
        have hl11 := opt_len 50 ak
        have V := hid (V.out.only_nil o11); have Q := hid (Q.out.trans o11); have OB := hid (OB.out.only o11 (by simp))
        clear hr11 hz11 o11
        go_wp2_with (at_builtin; refine wpList_app _ rfl (.tmp 67) (.tmp 70) _ rfl wrt.elemB (w.heap.size + 1) _ _ rfl V.out A11 n11 c11 (opt 50 ak) rfl R11.out Z11.out (by simp [zr_len, ref_four_len]; omega) (by simp [zr_len, ref_four_len, maxLen]; omega) OB.out.lt ?_)
        intro v11 w11 hv11 hg11 hb11
        have Q := hid (Q.out.own_grown V.out hg11 (by omega)); have OB := hid (OB.out.grown hg11 (fun h => by have := (V.out.lt _ h).1; omega)); have V := hid hv11
        clear hv11 hg11 hb11 R11 Z11 L11
        have k0 := OB.out.cell 0; have k1 := OB.out.cell 1; have k2 := OB.out.cell 2; have k3 := OB.out.cell 3; have k4 := OB.out.cell 4; have k5 := OB.out.cell 5; have k6 := OB.out.cell 6; have k7 := OB.out.cell 7; have k8 := OB.out.cell 8; have k9 := OB.out.cell 9; have k10 := OB.out.cell 10; have k11 := OB.out.cell 11; have k12 := OB.out.cell 12; have k13 := OB.out.cell 13; have k14 := OB.out.cell 14; have k15 := OB.out.cell 15
        go_wp2_with fail
        clear k0 k1 k2 k3 k4 k5 k6 k7 k8 k9 k10 k11 k12 k13 k14 k15
        refine (addr1 _ 51 ti (by omega)).mono ?_
        rintro x w12a ⟨A12, n12, c12, rfl, hr12, hz12, o12⟩
        have R12 := hid hr12; have Z12 := hid hz12; have L12 := hr12.len
        have hl12 := opt_len 51 ti
        have V := hid (V.out.only_nil o12); have Q := hid (Q.out.trans o12); have OB := hid (OB.out.only o12 (by simp))
        clear hr12 hz12 o12
        go_wp2_with (at_builtin; refine wpList_app _ rfl (.tmp 72) (.tmp 76) _ rfl wrt.elemB (w.heap.size + 1) _ _ rfl V.out A12 n12 c12 (opt 51 ti) rfl R12.out Z12.out (by simp [zr_len, ref_four_len]; omega) (by simp [zr_len, ref_four_len, maxLen]; omega) OB.out.lt ?_)
        intro v12 w12 hv12 hg12 hb12
        have Q := hid (Q.out.own_grown V.out hg12 (by omega)); have OB := hid (OB.out.grown hg12 (fun h => by have := (V.out.lt _ h).1; omega)); have V := hid hv12
        clear hv12 hg12 hb12 R12 Z12 L12
        have k0 := OB.out.cell 0; have k1 := OB.out.cell 1; have k2 := OB.out.cell 2; have k3 := OB.out.cell 3; have k4 := OB.out.cell 4; have k5 := OB.out.cell 5; have k6 := OB.out.cell 6; have k7 := OB.out.cell 7; have k8 := OB.out.cell 8; have k9 := OB.out.cell 9; have k10 := OB.out.cell 10; have k11 := OB.out.cell 11; have k12 := OB.out.cell 12; have k13 := OB.out.cell 13; have k14 := OB.out.cell 14; have k15 := OB.out.cell 15
        go_wp2_with fail
        clear k0 k1 k2 k3 k4 k5 k6 k7 k8 k9 k10 k11 k12 k13 k14 k15
        refine (addr1 _ 1 mk (by omega)).mono ?_
        rintro x w13a ⟨A13, n13, c13, rfl, hr13, hz13, o13⟩
        have R13 := hid hr13; have Z13 := hid hz13; have L13 := hr13.len
        have hl13 := opt_len 1 mk
        have V := hid (V.out.only_nil o13); have Q := hid (Q.out.trans o13); have OB := hid (OB.out.only o13 (by simp))
        clear hr13 hz13 o13
        go_wp2_with (at_builtin; refine wpList_app _ rfl (.tmp 78) (.tmp 81) _ rfl wrt.elemB (w.heap.size + 1) _ _ rfl V.out A13 n13 c13 (opt 1 mk) rfl R13.out Z13.out (by simp [zr_len, ref_four_len]; omega) (by simp [zr_len, ref_four_len, maxLen]; omega) OB.out.lt ?_)
        intro v13 w13 hv13 hg13 hb13
        have Q := hid (Q.out.own_grown V.out hg13 (by omega)); have OB := hid (OB.out.grown hg13 (fun h => by have := (V.out.lt _ h).1; omega)); have V := hid hv13
        clear hv13 hg13 hb13 R13 Z13 L13
        have k0 := OB.out.cell 0; have k1 := OB.out.cell 1; have k2 := OB.out.cell 2; have k3 := OB.out.cell 3; have k4 := OB.out.cell 4; have k5 := OB.out.cell 5; have k6 := OB.out.cell 6; have k7 := OB.out.cell 7; have k8 := OB.out.cell 8; have k9 := OB.out.cell 9; have k10 := OB.out.cell 10; have k11 := OB.out.cell 11; have k12 := OB.out.cell 12; have k13 := OB.out.cell 13; have k14 := OB.out.cell 14; have k15 := OB.out.cell 15
        go_wp2_with fail
        clear k0 k1 k2 k3 k4 k5 k6 k7 k8 k9 k10 k11 k12 k13 k14 k15
        refine (addr1 _ 3 ro (by omega)).mono ?_
        rintro x w14a ⟨A14, n14, c14, rfl, hr14, hz14, o14⟩
        have R14 := hid hr14; have Z14 := hid hz14; have L14 := hr14.len
        have hl14 := opt_len 3 ro
        have V := hid (V.out.only_nil o14); have Q := hid (Q.out.trans o14); have OB := hid (OB.out.only o14 (by simp))
        clear hr14 hz14 o14
        go_wp2_with (at_builtin; refine wpList_app _ rfl (.tmp 83) (.tmp 86) _ rfl wrt.elemB (w.heap.size + 1) _ _ rfl V.out A14 n14 c14 (opt 3 ro) rfl R14.out Z14.out (by simp [zr_len, ref_four_len]; omega) (by simp [zr_len, ref_four_len, maxLen]; omega) OB.out.lt ?_)
        intro v14 w14 hv14 hg14 hb14
        have Q := hid (Q.out.own_grown V.out hg14 (by omega)); have OB := hid (OB.out.grown hg14 (fun h => by have := (V.out.lt _ h).1; omega)); have V := hid hv14
        clear hv14 hg14 hb14 R14 Z14 L14
        have k0 := OB.out.cell 0; have k1 := OB.out.cell 1; have k2 := OB.out.cell 2; have k3 := OB.out.cell 3; have k4 := OB.out.cell 4; have k5 := OB.out.cell 5; have k6 := OB.out.cell 6; have k7 := OB.out.cell 7; have k8 := OB.out.cell 8; have k9 := OB.out.cell 9; have k10 := OB.out.cell 10; have k11 := OB.out.cell 11; have k12 := OB.out.cell 12; have k13 := OB.out.cell 13; have k14 := OB.out.cell 14; have k15 := OB.out.cell 15
        go_wp2_with fail
        clear k0 k1 k2 k3 k4 k5 k6 k7 k8 k9 k10 k11 k12 k13 k14 k15
        refine (addr1 _ 6 re (by omega)).mono ?_
        rintro x w15a ⟨A15, n15, c15, rfl, hr15, hz15, o15⟩
        have R15 := hid hr15; have Z15 := hid hz15; have L15 := hr15.len
        have hl15 := opt_len 6 re
        have V := hid (V.out.only_nil o15); have Q := hid (Q.out.trans o15); have OB := hid (OB.out.only o15 (by simp))
        clear hr15 hz15 o15
        go_wp2_with (at_builtin; refine wpList_app _ rfl (.tmp 88) (.tmp 91) _ rfl wrt.elemB (w.heap.size + 1) _ _ rfl V.out A15 n15 c15 (opt 6 re) rfl R15.out Z15.out (by simp [zr_len, ref_four_len]; omega) (by simp [zr_len, ref_four_len, maxLen]; omega) OB.out.lt ?_)
        intro v15 w15 hv15 hg15 hb15
        have Q := hid (Q.out.own_grown V.out hg15 (by omega)); have OB := hid (OB.out.grown hg15 (fun h => by have := (V.out.lt _ h).1; omega)); have V := hid hv15
        clear hv15 hg15 hb15 R15 Z15 L15
        have F := hid (Own.lit .u8 5 w15 0 [255] #[.int .u8 255] 1 rfl rfl (Nat.zero_le _) (by simp [maxLen]) (by decide)).rd
        have V := hid (V.out.alloc (.cells #[.int .u8 255] 5)); have Q := hid (Q.out.alloc (.cells #[.int .u8 255] 5)); have OB := hid (OB.out.alloc (.cells #[.int .u8 255] 5))
        go_wp2_with (at_builtin; refine wpList_app _ rfl (.tmp 93) (.tmp 94) _ rfl wrt.elemB (w.heap.size + 1) _ _ rfl V.out (some ⟨w15.heap.size, 0, none⟩) 1 1 [255] rfl F.out (by intro e; cases e) (by simp [zr_len, ref_four_len]; omega) (by simp [zr_len, ref_four_len, maxLen]; omega) OB.out.lt ?_)
        intro v16 w16 hv16 hg16 hb16
        have Q := hid (Q.out.own_grown V.out hg16 (by omega)); have V := hid hv16
        clear hv16 hg16 hb16
        go_wp2
        go_ret2
        refine ⟨v16, rfl, ?_, Q.out⟩
        refine Own.mono_base ?_ (show w.heap.size ≤ w.heap.size + 1 by omega)
        have h9 := V.out
        simpa [enc, head, ref.four] using h9
  · refine rgn.stepE rfl rfl (fun K hK => ?_)
    have qq := OB.out.cell 1
    go_simp
    refine hK _ _ (AnyW.any _ _) ?_
    clear hK K qq
    try simp only [Act.put, List.setIfInBounds_toArray, List.set_cons_zero, List.set_cons_succ]
    refine rgn.Walk.bs ?_ ?_
    · refine rgn.stepE rfl rfl (fun K hK => ?_)
      have qq := OB.out.cell 0
      go_simp
      refine hK _ _ (AnyW.any _ _) ?_
      clear hK K qq
      try simp only [Act.put, List.setIfInBounds_toArray, List.set_cons_zero, List.set_cons_succ]
      refine rgn.Walk.ys (v := ?_) rfl rfl rfl ?_ ?_
      rotate_left 1
      · intro W' hW'
        go_simp
        try with_reducible rfl
      try simp only [Act.put, List.setIfInBounds_toArray, List.set_cons_zero, List.set_cons_succ]
      refine rgn.Walk.bs ?_ ?_
      · refine rgn.stepE rfl rfl (fun K hK => ?_)
        go_simp
        refine hK _ _ (AnyW.any _ _) ?_
        clear hK K
        have V := hid (lit0 _ op OB.out.lt HW4.out)
        have Q := hid (Q.out.alloc (.cells #[.int .u8 op, .int .u8 1, .int .u8 6, .int .u8 0] 5)); have OB := hid (OB.out.alloc (.cells #[.int .u8 op, .int .u8 1, .int .u8 6, .int .u8 0] 5))
        try simp only [Act.put, List.setIfInBounds_toArray, List.set_cons_zero, List.set_cons_succ]
        refine rgn.Walk.es ?_
        refine rgn.stepE rfl rfl (fun K hK => ?_)
        go_simp
        refine (ref.four1 _ id).mono ?_
        rintro x w6 ⟨g6, rfl, h6, o6⟩
        refine hK _ _ (AnyW.any _ _) ?_
        clear hK K
        have F := hid h6.rd
        have V := hid (V.out.only_nil o6)
        have Q := hid (Q.out.trans o6); have OB := hid (OB.out.only o6 (by simp))
        clear h6 o6
        try simp only [Act.put, List.setIfInBounds_toArray, List.set_cons_zero, List.set_cons_succ]
        refine rgn.Walk.es ?_
        refine rgn.stepE rfl rfl (fun K hK => ?_)
        refine opApp rfl (.tmp 36) (.tmp 39) _ rfl wrt.elemB (w.heap.size + 1) _ _ rfl V.out (some ⟨g6, 0, none⟩) 4 4 (ref.four id) rfl F.out (by intro e; cases e) (by simp) (by simp [maxLen]) OB.out.lt ?_
        intro v7 w7 hv7 hg7 hb7
        refine hK _ _ (AnyW.any _ _) ?_
        clear hK K
        have Q := hid (Q.out.own_grown V.out hg7 (by omega)); have OB := hid (OB.out.grown hg7 (fun h => by have := (V.out.lt _ h).1; omega)); have V := hid hv7
        clear hv7 hg7 hb7 F
        try simp only [Act.put, List.setIfInBounds_toArray, List.set_cons_zero, List.set_cons_succ]
        refine rgn.Walk.es ?_
        refine rgn.stepE rfl rfl (fun K hK => ?_)
        go_simp
        refine hK _ _ (AnyW.any _ _) ?_
        clear hK K
        try simp only [Act.put, List.setIfInBounds_toArray, List.set_cons_zero, List.set_cons_succ]
        refine rgn.Walk.zs (NoPanic.normal ?_)
        go_wp2_with (at_builtin; refine wpList_app0 (zr 8) rfl (.tmp 41) (.const (.int .i64 8)) _ _ rfl wrt.elemB Try.underlying3 (w.heap.size + 1) _ _ rfl V.out 8 rfl rfl (by omega) (by simp) (by decide) (by simp [zr_len, ref_four_len]) (by simp [zr_len, ref_four_len, maxLen]) OB.out.lt ?_)
        intro v4 w4 hv4 hg4 hb4
        have Q := hid (Q.out.own_grown V.out hg4 (by omega)); have OB := hid (OB.out.grown hg4 (fun h => by have := (V.out.lt _ h).1; omega)); have V := hid hv4
        clear hv4 hg4 hb4
        have k0 := OB.out.cell 0; have k1 := OB.out.cell 1; have k2 := OB.out.cell 2; have k3 := OB.out.cell 3; have k4 := OB.out.cell 4; have k5 := OB.out.cell 5; have k6 := OB.out.cell 6; have k7 := OB.out.cell 7; have k8 := OB.out.cell 8; have k9 := OB.out.cell 9; have k10 := OB.out.cell 10; have k11 := OB.out.cell 11; have k12 := OB.out.cell 12; have k13 := OB.out.cell 13; have k14 := OB.out.cell 14; have k15 := OB.out.cell 15
        go_wp2_with fail
        clear k0 k1 k2 k3 k4 k5 k6 k7 k8 k9 k10 k11 k12 k13 k14 k15
        refine (ref.four1 _ yo).mono ?_
        rintro x w5a ⟨g5, rfl, h5, o5⟩
        have F := hid h5.rd; have V := hid (V.out.only_nil o5); have Q := hid (Q.out.trans o5); have OB := hid (OB.out.only o5 (by simp))
        clear h5 o5
        go_wp2_with (at_builtin; refine wpList_app _ rfl (.tmp 43) (.tmp 46) _ rfl wrt.elemB (w.heap.size + 1) _ _ rfl V.out (some ⟨g5, 0, none⟩) 4 4 (ref.four yo) rfl F.out (by intro e; cases e) (by simp [zr_len, ref_four_len]; try omega) (by simp [zr_len, ref_four_len, maxLen]; try omega) OB.out.lt ?_)
        intro v5 w5 hv5 hg5 hb5
        have Q := hid (Q.out.own_grown V.out hg5 (by omega)); have OB := hid (OB.out.grown hg5 (fun h => by have := (V.out.lt _ h).1; omega)); have V := hid hv5
        clear hv5 hg5 hb5
        clear F
        go_wp2_with (at_builtin; refine wpList_app0 (zr 8) rfl (.tmp 48) (.const (.int .i64 8)) _ _ rfl wrt.elemB Try.underlying3 (w.heap.size + 1) _ _ rfl V.out 8 rfl rfl (by omega) (by simp) (by decide) (by simp [zr_len, ref_four_len]) (by simp [zr_len, ref_four_len, maxLen]) OB.out.lt ?_)
        intro v6 w6 hv6 hg6 hb6
        have Q := hid (Q.out.own_grown V.out hg6 (by omega)); have OB := hid (OB.out.grown hg6 (fun h => by have := (V.out.lt _ h).1; omega)); have V := hid hv6
        clear hv6 hg6 hb6
        have HCl : Hid (Rd .u8 w6 (some ⟨w.heap.size, 3, none⟩) 6 [c0, c1, c2, c3, c4, c5]) := hid ⟨rfl, HCc.out, fun _ => ⟨w.heap.size, 3, rfl, fun j hj => by
          rcases (by omega : j = 0 ∨ j = 1 ∨ j = 2 ∨ j = 3 ∨ j = 4 ∨ j = 5) with rfl | rfl | rfl | rfl | rfl | rfl
          · exact OB.out.cell 3
          · exact OB.out.cell 4
          · exact OB.out.cell 5
          · exact OB.out.cell 6
          · exact OB.out.cell 7
          · exact OB.out.cell 8⟩⟩
        go_wp2_with (at_builtin; refine wpList_app _ rfl (.tmp 50) (.tmp 52) _ rfl wrt.elemB (w.heap.size + 1) _ _ rfl V.out (some ⟨w.heap.size, 3, none⟩) 6 _ [c0, c1, c2, c3, c4, c5] rfl HCl.out (by intro e; cases e) (by simp [zr_len, ref_four_len]; try omega) (by simp [zr_len, ref_four_len, maxLen]; try omega) OB.out.lt ?_)
        intro v7 w7 hv7 hg7 hb7
        have Q := hid (Q.out.own_grown V.out hg7 (by omega)); have OB := hid (OB.out.grown hg7 (fun h => by have := (V.out.lt _ h).1; omega)); have V := hid hv7
        clear hv7 hg7 hb7
        clear HCl
        go_wp2_with (at_builtin; refine wpList_app0 (zr 202) rfl (.tmp 54) (.const (.int .i64 202)) _ _ rfl wrt.elemB Try.underlying3 (w.heap.size + 1) _ _ rfl V.out 202 rfl rfl (by omega) (by simp) (by decide) (by simp [zr_len, ref_four_len]) (by simp [zr_len, ref_four_len, maxLen]) OB.out.lt ?_)
        intro v8 w8 hv8 hg8 hb8
        have Q := hid (Q.out.own_grown V.out hg8 (by omega)); have OB := hid (OB.out.grown hg8 (fun h => by have := (V.out.lt _ h).1; omega)); have V := hid hv8
        clear hv8 hg8 hb8
        have k0 := OB.out.cell 0; have k1 := OB.out.cell 1; have k2 := OB.out.cell 2; have k3 := OB.out.cell 3; have k4 := OB.out.cell 4; have k5 := OB.out.cell 5; have k6 := OB.out.cell 6; have k7 := OB.out.cell 7; have k8 := OB.out.cell 8; have k9 := OB.out.cell 9; have k10 := OB.out.cell 10; have k11 := OB.out.cell 11; have k12 := OB.out.cell 12; have k13 := OB.out.cell 13; have k14 := OB.out.cell 14; have k15 := OB.out.cell 15
        have HW7 : Hid (∀ z ∈ [99, 130, 83, 99, 53, 1, ty], (Lit.int .u8 z).wf = true) := hid (by
          intro z hz
          simp only [List.mem_cons, List.not_mem_nil, or_false] at hz
          apply (Lit.wf_int_iff .u8 z).2
          show 0 ≤ z ∧ z ≤ 255
          omega)
        have F := hid (Own.lit .u8 5 w8 0 [99, 130, 83, 99, 53, 1, ty] #[.int .u8 99, .int .u8 130, .int .u8 83, .int .u8 99, .int .u8 53, .int .u8 1, .int .u8 ty] 7 rfl rfl (Nat.zero_le _) (by simp [maxLen]) HW7.out).rd
        have V := hid (V.out.alloc (.cells #[.int .u8 99, .int .u8 130, .int .u8 83, .int .u8 99, .int .u8 53, .int .u8 1, .int .u8 ty] 5)); have Q := hid (Q.out.alloc (.cells #[.int .u8 99, .int .u8 130, .int .u8 83, .int .u8 99, .int .u8 53, .int .u8 1, .int .u8 ty] 5)); have OB := hid (OB.out.alloc (.cells #[.int .u8 99, .int .u8 130, .int .u8 83, .int .u8 99, .int .u8 53, .int .u8 1, .int .u8 ty] 5))
        go_wp2_with (at_builtin; refine wpList_app _ rfl (.tmp 56) (.tmp 60) _ rfl wrt.elemB (w.heap.size + 1) _ _ rfl V.out (some ⟨w8.heap.size, 0, none⟩) 7 7 [99, 130, 83, 99, 53, 1, ty] rfl F.out (by intro e; cases e) (by simp [zr_len, ref_four_len]; try omega) (by simp [zr_len, ref_four_len, maxLen]; try omega) OB.out.lt ?_)
        intro v9 w9 hv9 hg9 hb9
        have Q := hid (Q.out.own_grown V.out hg9 (by omega)); have OB := hid (OB.out.grown hg9 (fun h => by have := (V.out.lt _ h).1; omega)); have V := hid hv9
        clear hv9 hg9 hb9
        clear F k0 k1 k2 k3 k4 k5 k6 k7 k8 k9 k10 k11 k12 k13 k14 k15
        have k0 := OB.out.cell 0; have k1 := OB.out.cell 1; have k2 := OB.out.cell 2; have k3 := OB.out.cell 3; have k4 := OB.out.cell 4; have k5 := OB.out.cell 5; have k6 := OB.out.cell 6; have k7 := OB.out.cell 7; have k8 := OB.out.cell 8; have k9 := OB.out.cell 9; have k10 := OB.out.cell 10; have k11 := OB.out.cell 11; have k12 := OB.out.cell 12; have k13 := OB.out.cell 13; have k14 := OB.out.cell 14; have k15 := OB.out.cell 15
        go_wp2_with fail
        clear k0 k1 k2 k3 k4 k5 k6 k7 k8 k9 k10 k11 k12 k13 k14 k15
        refine (addr1 _ 54 sv (by omega)).mono ?_
        rintro x w10a ⟨A10, n10, c10, rfl, hr10, hz10, o10⟩
        have R10 := hid hr10; have Z10 := hid hz10; have L10 := hr10.len
        have hl10 := opt_len 54 sv
        have V := hid (V.out.only_nil o10); have Q := hid (Q.out.trans o10); have OB := hid (OB.out.only o10 (by simp))
        clear hr10 hz10 o10
        go_wp2_with (at_builtin; refine wpList_app _ rfl (.tmp 62) (.tmp 65) _ rfl wrt.elemB (w.heap.size + 1) _ _ rfl V.out A10 n10 c10 (opt 54 sv) rfl R10.out Z10.out (by simp [zr_len, ref_four_len]; omega) (by simp [zr_len, ref_four_len, maxLen]; omega) OB.out.lt ?_)
        intro v10 w10 hv10 hg10 hb10
        have Q := hid (Q.out.own_grown V.out hg10 (by omega)); have OB := hid (OB.out.grown hg10 (fun h => by have := (V.out.lt _ h).1; omega)); have V := hid hv10
        clear hv10 hg10 hb10 R10 Z10 L10
        have k0 := OB.out.cell 0; have k1 := OB.out.cell 1; have k2 := OB.out.cell 2; have k3 := OB.out.cell 3; have k4 := OB.out.cell 4; have k5 := OB.out.cell 5; have k6 := OB.out.cell 6; have k7 := OB.out.cell 7; have k8 := OB.out.cell 8; have k9 := OB.out.cell 9; have k10 := OB.out.cell 10; have k11 := OB.out.cell 11; have k12 := OB.out.cell 12; have k13 := OB.out.cell 13; have k14 := OB.out.cell 14; have k15 := OB.out.cell 15
        go_wp2_with fail
        clear k0 k1 k2 k3 k4 k5 k6 k7 k8 k9 k10 k11 k12 k13 k14 k15
        refine (addr1 _ 50 ak (by omega)).mono ?_
        rintro x w11a ⟨A11, n11, c11, rfl, hr11, hz11, o11⟩
        have R11 := hid hr11; have Z11 := hid hz11; have L11 := hr11.len
        have hl11 := opt_len 50 ak
        have V := hid (V.out.only_nil o11); have Q := hid (Q.out.trans o11); have OB := hid (OB.out.only o11 (by simp))
        clear hr11 hz11 o11
        go_wp2_with (at_builtin; refine wpList_app _ rfl (.tmp 67) (.tmp 70) _ rfl wrt.elemB (w.heap.size + 1) _ _ rfl V.out A11 n11 c11 (opt 50 ak) rfl R11.out Z11.out (by simp [zr_len, ref_four_len]; omega) (by simp [zr_len, ref_four_len, maxLen]; omega) OB.out.lt ?_)
        intro v11 w11 hv11 hg11 hb11
        have Q := hid (Q.out.own_grown V.out hg11 (by omega)); have OB := hid (OB.out.grown hg11 (fun h => by have := (V.out.lt _ h).1; omega)); have V := hid hv11
        clear hv11 hg11 hb11 R11 Z11 L11
        have k0 := OB.out.cell 0; have k1 := OB.out.cell 1; have k2 := OB.out.cell 2; have k3 := OB.out.cell 3; have k4 := OB.out.cell 4; have k5 := OB.out.cell 5; have k6 := OB.out.cell 6; have k7 := OB.out.cell 7; have k8 := OB.out.cell 8; have k9 := OB.out.cell 9; have k10 := OB.out.cell 10; have k11 := OB.out.cell 11; have k12 := OB.out.cell 12; have k13 := OB.out.cell 13; have k14 := OB.out.cell 14; have k15 := OB.out.cell 15
        go_wp2_with fail
        clear k0 k1 k2 k3 k4 k5 k6 k7 k8 k9 k10 k11 k12 k13 k14 k15
        refine (addr1 _ 51 ti (by omega)).mono ?_
        rintro x w12a ⟨A12, n12, c12, rfl, hr12, hz12, o12⟩
        have R12 := hid hr12; have Z12 := hid hz12; have L12 := hr12.len
        have hl12 := opt_len 51 ti
        have V := hid (V.out.only_nil o12); have Q := hid (Q.out.trans o12); have OB := hid (OB.out.only o12 (by simp))
        clear hr12 hz12 o12
        go_wp2_with (at_builtin; refine wpList_app _ rfl (.tmp 72) (.tmp 76) _ rfl wrt.elemB (w.heap.size + 1) _ _ rfl V.out A12 n12 c12 (opt 51 ti) rfl R12.out Z12.out (by simp [zr_len, ref_four_len]; omega) (by simp [zr_len, ref_four_len, maxLen]; omega) OB.out.lt ?_)
        intro v12 w12 hv12 hg12 hb12
        have Q := hid (Q.out.own_grown V.out hg12 (by omega)); have OB := hid (OB.out.grown hg12 (fun h => by have := (V.out.lt _ h).1; omega)); have V := hid hv12
        clear hv12 hg12 hb12 R12 Z12 L12
        have k0 := OB.out.cell 0; have k1 := OB.out.cell 1; have k2 := OB.out.cell 2; have k3 := OB.out.cell 3; have k4 := OB.out.cell 4; have k5 := OB.out.cell 5; have k6 := OB.out.cell 6; have k7 := OB.out.cell 7; have k8 := OB.out.cell 8; have k9 := OB.out.cell 9; have k10 := OB.out.cell 10; have k11 := OB.out.cell 11; have k12 := OB.out.cell 12; have k13 := OB.out.cell 13; have k14 := OB.out.cell 14; have k15 := OB.out.cell 15
        go_wp2_with fail
        clear k0 k1 k2 k3 k4 k5 k6 k7 k8 k9 k10 k11 k12 k13 k14 k15
        refine (addr1 _ 1 mk (by omega)).mono ?_
        rintro x w13a ⟨A13, n13, c13, rfl, hr13, hz13, o13⟩
        have R13 := hid hr13; have Z13 := hid hz13; have L13 := hr13.len
        have hl13 := opt_len 1 mk
        have V := hid (V.out.only_nil o13); have Q := hid (Q.out.trans o13); have OB := hid (OB.out.only o13 (by simp))
        clear hr13 hz13 o13
        go_wp2_with (at_builtin; refine wpList_app _ rfl (.tmp 78) (.tmp 81) _ rfl wrt.elemB (w.heap.size + 1) _ _ rfl V.out A13 n13 c13 (opt 1 mk) rfl R13.out Z13.out (by simp [zr_len, ref_four_len]; omega) (by simp [zr_len, ref_four_len, maxLen]; omega) OB.out.lt ?_)
        intro v13 w13 hv13 hg13 hb13
        have Q := hid (Q.out.own_grown V.out hg13 (by omega)); have OB := hid (OB.out.grown hg13 (fun h => by have := (V.out.lt _ h).1; omega)); have V := hid hv13
        clear hv13 hg13 hb13 R13 Z13 L13
        have k0 := OB.out.cell 0; have k1 := OB.out.cell 1; have k2 := OB.out.cell 2; have k3 := OB.out.cell 3; have k4 := OB.out.cell 4; have k5 := OB.out.cell 5; have k6 := OB.out.cell 6; have k7 := OB.out.cell 7; have k8 := OB.out.cell 8; have k9 := OB.out.cell 9; have k10 := OB.out.cell 10; have k11 := OB.out.cell 11; have k12 := OB.out.cell 12; have k13 := OB.out.cell 13; have k14 := OB.out.cell 14; have k15 := OB.out.cell 15
        go_wp2_with fail
        clear k0 k1 k2 k3 k4 k5 k6 k7 k8 k9 k10 k11 k12 k13 k14 k15
        refine (addr1 _ 3 ro (by omega)).mono ?_
        rintro x w14a ⟨A14, n14, c14, rfl, hr14, hz14, o14⟩
        have R14 := hid hr14; have Z14 := hid hz14; have L14 := hr14.len
        have hl14 := opt_len 3 ro
        have V := hid (V.out.only_nil o14); have Q := hid (Q.out.trans o14); have OB := hid (OB.out.only o14 (by simp))
        clear hr14 hz14 o14
        go_wp2_with (at_builtin; refine wpList_app _ rfl (.tmp 83) (.tmp 86) _ rfl wrt.elemB (w.heap.size + 1) _ _ rfl V.out A14 n14 c14 (opt 3 ro) rfl R14.out Z14.out (by simp [zr_len, ref_four_len]; omega) (by simp [zr_len, ref_four_len, maxLen]; omega) OB.out.lt ?_)
        intro v14 w14 hv14 hg14 hb14
        have Q := hid (Q.out.own_grown V.out hg14 (by omega)); have OB := hid (OB.out.grown hg14 (fun h => by have := (V.out.lt _ h).1; omega)); have V := hid hv14
        clear hv14 hg14 hb14 R14 Z14 L14
        have k0 := OB.out.cell 0; have k1 := OB.out.cell 1; have k2 := OB.out.cell 2; have k3 := OB.out.cell 3; have k4 := OB.out.cell 4; have k5 := OB.out.cell 5; have k6 := OB.out.cell 6; have k7 := OB.out.cell 7; have k8 := OB.out.cell 8; have k9 := OB.out.cell 9; have k10 := OB.out.cell 10; have k11 := OB.out.cell 11; have k12 := OB.out.cell 12; have k13 := OB.out.cell 13; have k14 := OB.out.cell 14; have k15 := OB.out.cell 15
        go_wp2_with fail
        clear k0 k1 k2 k3 k4 k5 k6 k7 k8 k9 k10 k11 k12 k13 k14 k15
        refine (addr1 _ 6 re (by omega)).mono ?_
        rintro x w15a ⟨A15, n15, c15, rfl, hr15, hz15, o15⟩
        have R15 := hid hr15; have Z15 := hid hz15; have L15 := hr15.len
        have hl15 := opt_len 6 re
        have V := hid (V.out.only_nil o15); have Q := hid (Q.out.trans o15); have OB := hid (OB.out.only o15 (by simp))
        clear hr15 hz15 o15
        go_wp2_with (at_builtin; refine wpList_app _ rfl (.tmp 88) (.tmp 91) _ rfl wrt.elemB (w.heap.size + 1) _ _ rfl V.out A15 n15 c15 (opt 6 re) rfl R15.out Z15.out (by simp [zr_len, ref_four_len]; omega) (by simp [zr_len, ref_four_len, maxLen]; omega) OB.out.lt ?_)
        intro v15 w15 hv15 hg15 hb15
        have Q := hid (Q.out.own_grown V.out hg15 (by omega)); have OB := hid (OB.out.grown hg15 (fun h => by have := (V.out.lt _ h).1; omega)); have V := hid hv15
        clear hv15 hg15 hb15 R15 Z15 L15
        have F := hid (Own.lit .u8 5 w15 0 [255] #[.int .u8 255] 1 rfl rfl (Nat.zero_le _) (by simp [maxLen]) (by decide)).rd
        have V := hid (V.out.alloc (.cells #[.int .u8 255] 5)); have Q := hid (Q.out.alloc (.cells #[.int .u8 255] 5)); have OB := hid (OB.out.alloc (.cells #[.int .u8 255] 5))
        go_wp2_with (at_builtin; refine wpList_app _ rfl (.tmp 93) (.tmp 94) _ rfl wrt.elemB (w.heap.size + 1) _ _ rfl V.out (some ⟨w15.heap.size, 0, none⟩) 1 1 [255] rfl F.out (by intro e; cases e) (by simp [zr_len, ref_four_len]; omega) (by simp [zr_len, ref_four_len, maxLen]; omega) OB.out.lt ?_)
        intro v16 w16 hv16 hg16 hb16
        have Q := hid (Q.out.own_grown V.out hg16 (by omega)); have V := hid hv16
        clear hv16 hg16 hb16
        go_wp2
        go_ret2
        refine ⟨v16, rfl, ?_, Q.out⟩
        refine Own.mono_base ?_ (show w.heap.size ≤ w.heap.size + 1 by omega)
        have h9 := V.out
        simpa [enc, head, ref.four] using h9
      · refine rgn.stepE rfl rfl (fun K hK => ?_)
        go_simp
        refine (ref.four1 _ id).mono ?_
        rintro x w6 ⟨g6, rfl, h6, o6⟩
        refine hK _ _ (AnyW.any _ _) ?_
        clear hK K
        have F := hid h6.rd
        have Q := hid (Q.out.trans o6); have OB := hid (OB.out.only o6 (by simp))
        clear h6 o6
        try simp only [Act.put, List.setIfInBounds_toArray, List.set_cons_zero, List.set_cons_succ]
        refine rgn.Walk.es ?_
        refine rgn.stepE rfl rfl (fun K hK => ?_)
        go_simp
        refine hK _ _ (AnyW.any _ _) ?_
        clear hK K
        have V := hid (lit0 _ op OB.out.lt HW4.out)
        have Q := hid (Q.out.alloc (.cells #[.int .u8 op, .int .u8 1, .int .u8 6, .int .u8 0] 5)); have OB := hid (OB.out.alloc (.cells #[.int .u8 op, .int .u8 1, .int .u8 6, .int .u8 0] 5))
        have F := hid (F.out.alloc (.cells #[.int .u8 op, .int .u8 1, .int .u8 6, .int .u8 0] 5))
        try simp only [Act.put, List.setIfInBounds_toArray, List.set_cons_zero, List.set_cons_succ]
        refine rgn.Walk.es ?_
        refine rgn.stepE rfl rfl (fun K hK => ?_)
        refine opApp rfl (.tmp 36) (.tmp 39) _ rfl wrt.elemB (w.heap.size + 1) _ _ rfl V.out (some ⟨g6, 0, none⟩) 4 4 (ref.four id) rfl F.out (by intro e; cases e) (by simp) (by simp [maxLen]) OB.out.lt ?_
        intro v7 w7 hv7 hg7 hb7
        refine hK _ _ (AnyW.any _ _) ?_
        clear hK K
        have Q := hid (Q.out.own_grown V.out hg7 (by omega)); have OB := hid (OB.out.grown hg7 (fun h => by have := (V.out.lt _ h).1; omega)); have V := hid hv7
        clear hv7 hg7 hb7 F
        try simp only [Act.put, List.setIfInBounds_toArray, List.set_cons_zero, List.set_cons_succ]
        refine rgn.Walk.es ?_
        refine rgn.stepE rfl rfl (fun K hK => ?_)
        go_simp
        refine hK _ _ (AnyW.any _ _) ?_
        clear hK K
        try simp only [Act.put, List.setIfInBounds_toArray, List.set_cons_zero, List.set_cons_succ]
        refine rgn.Walk.zs (NoPanic.normal ?_)
        go_wp2_with (at_builtin; refine wpList_app0 (zr 8) rfl (.tmp 41) (.const (.int .i64 8)) _ _ rfl wrt.elemB Try.underlying3 (w.heap.size + 1) _ _ rfl V.out 8 rfl rfl (by omega) (by simp) (by decide) (by simp [zr_len, ref_four_len]) (by simp [zr_len, ref_four_len, maxLen]) OB.out.lt ?_)
        intro v4 w4 hv4 hg4 hb4
        have Q := hid (Q.out.own_grown V.out hg4 (by omega)); have OB := hid (OB.out.grown hg4 (fun h => by have := (V.out.lt _ h).1; omega)); have V := hid hv4
        clear hv4 hg4 hb4
        have k0 := OB.out.cell 0; have k1 := OB.out.cell 1; have k2 := OB.out.cell 2; have k3 := OB.out.cell 3; have k4 := OB.out.cell 4; have k5 := OB.out.cell 5; have k6 := OB.out.cell 6; have k7 := OB.out.cell 7; have k8 := OB.out.cell 8; have k9 := OB.out.cell 9; have k10 := OB.out.cell 10; have k11 := OB.out.cell 11; have k12 := OB.out.cell 12; have k13 := OB.out.cell 13; have k14 := OB.out.cell 14; have k15 := OB.out.cell 15
        go_wp2_with fail
        clear k0 k1 k2 k3 k4 k5 k6 k7 k8 k9 k10 k11 k12 k13 k14 k15
        refine (ref.four1 _ yo).mono ?_
        rintro x w5a ⟨g5, rfl, h5, o5⟩
        have F := hid h5.rd; have V := hid (V.out.only_nil o5); have Q := hid (Q.out.trans o5); have OB := hid (OB.out.only o5 (by simp))
        clear h5 o5
        go_wp2_with (at_builtin; refine wpList_app _ rfl (.tmp 43) (.tmp 46) _ rfl wrt.elemB (w.heap.size + 1) _ _ rfl V.out (some ⟨g5, 0, none⟩) 4 4 (ref.four yo) rfl F.out (by intro e; cases e) (by simp [zr_len, ref_four_len]; try omega) (by simp [zr_len, ref_four_len, maxLen]; try omega) OB.out.lt ?_)
        intro v5 w5 hv5 hg5 hb5
        have Q := hid (Q.out.own_grown V.out hg5 (by omega)); have OB := hid (OB.out.grown hg5 (fun h => by have := (V.out.lt _ h).1; omega)); have V := hid hv5
        clear hv5 hg5 hb5
        clear F
        go_wp2_with (at_builtin; refine wpList_app0 (zr 8) rfl (.tmp 48) (.const (.int .i64 8)) _ _ rfl wrt.elemB Try.underlying3 (w.heap.size + 1) _ _ rfl V.out 8 rfl rfl (by omega) (by simp) (by decide) (by simp [zr_len, ref_four_len]) (by simp [zr_len, ref_four_len, maxLen]) OB.out.lt ?_)
        intro v6 w6 hv6 hg6 hb6
        have Q := hid (Q.out.own_grown V.out hg6 (by omega)); have OB := hid (OB.out.grown hg6 (fun h => by have := (V.out.lt _ h).1; omega)); have V := hid hv6
        clear hv6 hg6 hb6
        have HCl : Hid (Rd .u8 w6 (some ⟨w.heap.size, 3, none⟩) 6 [c0, c1, c2, c3, c4, c5]) := hid ⟨rfl, HCc.out, fun _ => ⟨w.heap.size, 3, rfl, fun j hj => by
          rcases (by omega : j = 0 ∨ j = 1 ∨ j = 2 ∨ j = 3 ∨ j = 4 ∨ j = 5) with rfl | rfl | rfl | rfl | rfl | rfl
          · exact OB.out.cell 3
          · exact OB.out.cell 4
          · exact OB.out.cell 5
          · exact OB.out.cell 6
          · exact OB.out.cell 7
          · exact OB.out.cell 8⟩⟩
        go_wp2_with (at_builtin; refine wpList_app _ rfl (.tmp 50) (.tmp 52) _ rfl wrt.elemB (w.heap.size + 1) _ _ rfl V.out (some ⟨w.heap.size, 3, none⟩) 6 _ [c0, c1, c2, c3, c4, c5] rfl HCl.out (by intro e; cases e) (by simp [zr_len, ref_four_len]; try omega) (by simp [zr_len, ref_four_len, maxLen]; try omega) OB.out.lt ?_)
        intro v7 w7 hv7 hg7 hb7
        have Q := hid (Q.out.own_grown V.out hg7 (by omega)); have OB := hid (OB.out.grown hg7 (fun h => by have := (V.out.lt _ h).1; omega)); have V := hid hv7
        clear hv7 hg7 hb7
        clear HCl
        go_wp2_with (at_builtin; refine wpList_app0 (zr 202) rfl (.tmp 54) (.const (.int .i64 202)) _ _ rfl wrt.elemB Try.underlying3 (w.heap.size + 1) _ _ rfl V.out 202 rfl rfl (by omega) (by simp) (by decide) (by simp [zr_len, ref_four_len]) (by simp [zr_len, ref_four_len, maxLen]) OB.out.lt ?_)
        intro v8 w8 hv8 hg8 hb8
        have Q := hid (Q.out.own_grown V.out hg8 (by omega)); have OB := hid (OB.out.grown hg8 (fun h => by have := (V.out.lt _ h).1; omega)); have V := hid hv8
        clear hv8 hg8 hb8
        have k0 := OB.out.cell 0; have k1 := OB.out.cell 1; have k2 := OB.out.cell 2; have k3 := OB.out.cell 3; have k4 := OB.out.cell 4; have k5 := OB.out.cell 5; have k6 := OB.out.cell 6; have k7 := OB.out.cell 7; have k8 := OB.out.cell 8; have k9 := OB.out.cell 9; have k10 := OB.out.cell 10; have k11 := OB.out.cell 11; have k12 := OB.out.cell 12; have k13 := OB.out.cell 13; have k14 := OB.out.cell 14; have k15 := OB.out.cell 15
        have HW7 : Hid (∀ z ∈ [99, 130, 83, 99, 53, 1, ty], (Lit.int .u8 z).wf = true) := hid (by
          intro z hz
          simp only [List.mem_cons, List.not_mem_nil, or_false] at hz
          apply (Lit.wf_int_iff .u8 z).2
          show 0 ≤ z ∧ z ≤ 255
          omega)
        have F := hid (Own.lit .u8 5 w8 0 [99, 130, 83, 99, 53, 1, ty] #[.int .u8 99, .int .u8 130, .int .u8 83, .int .u8 99, .int .u8 53, .int .u8 1, .int .u8 ty] 7 rfl rfl (Nat.zero_le _) (by simp [maxLen]) HW7.out).rd
        have V := hid (V.out.alloc (.cells #[.int .u8 99, .int .u8 130, .int .u8 83, .int .u8 99, .int .u8 53, .int .u8 1, .int .u8 ty] 5)); have Q := hid (Q.out.alloc (.cells #[.int .u8 99, .int .u8 130, .int .u8 83, .int .u8 99, .int .u8 53, .int .u8 1, .int .u8 ty] 5)); have OB := hid (OB.out.alloc (.cells #[.int .u8 99, .int .u8 130, .int .u8 83, .int .u8 99, .int .u8 53, .int .u8 1, .int .u8 ty] 5))
        go_wp2_with (at_builtin; refine wpList_app _ rfl (.tmp 56) (.tmp 60) _ rfl wrt.elemB (w.heap.size + 1) _ _ rfl V.out (some ⟨w8.heap.size, 0, none⟩) 7 7 [99, 130, 83, 99, 53, 1, ty] rfl F.out (by intro e; cases e) (by simp [zr_len, ref_four_len]; try omega) (by simp [zr_len, ref_four_len, maxLen]; try omega) OB.out.lt ?_)
        intro v9 w9 hv9 hg9 hb9
        have Q := hid (Q.out.own_grown V.out hg9 (by omega)); have OB := hid (OB.out.grown hg9 (fun h => by have := (V.out.lt _ h).1; omega)); have V := hid hv9
        clear hv9 hg9 hb9
        clear F k0 k1 k2 k3 k4 k5 k6 k7 k8 k9 k10 k11 k12 k13 k14 k15
        have k0 := OB.out.cell 0; have k1 := OB.out.cell 1; have k2 := OB.out.cell 2; have k3 := OB.out.cell 3; have k4 := OB.out.cell 4; have k5 := OB.out.cell 5; have k6 := OB.out.cell 6; have k7 := OB.out.cell 7; have k8 := OB.out.cell 8; have k9 := OB.out.cell 9; have k10 := OB.out.cell 10; have k11 := OB.out.cell 11; have k12 := OB.out.cell 12; have k13 := OB.out.cell 13; have k14 := OB.out.cell 14; have k15 := OB.out.cell 15
        go_wp2_with fail
        clear k0 k1 k2 k3 k4 k5 k6 k7 k8 k9 k10 k11 k12 k13 k14 k15
        refine (addr1 _ 54 sv (by omega)).mono ?_
        rintro x w10a ⟨A10, n10, c10, rfl, hr10, hz10, o10⟩
        have R10 := hid hr10; have Z10 := hid hz10; have L10 := hr10.len
        have hl10 := opt_len 54 sv
        have V := hid (V.out.only_nil o10); have Q := hid (Q.out.trans o10); have OB := hid (OB.out.only o10 (by simp))
        clear hr10 hz10 o10
        go_wp2_with (at_builtin; refine wpList_app _ rfl (.tmp 62) (.tmp 65) _ rfl wrt.elemB (w.heap.size + 1) _ _ rfl V.out A10 n10 c10 (opt 54 sv) rfl R10.out Z10.out (by simp [zr_len, ref_four_len]; omega) (by simp [zr_len, ref_four_len, maxLen]; omega) OB.out.lt ?_)
        intro v10 w10 hv10 hg10 hb10
        have Q := hid (Q.out.own_grown V.out hg10 (by omega)); have OB := hid (OB.out.grown hg10 (fun h => by have := (V.out.lt _ h).1; omega)); have V := hid hv10
        clear hv10 hg10 hb10 R10 Z10 L10
        have k0 := OB.out.cell 0; have k1 := OB.out.cell 1; have k2 := OB.out.cell 2; have k3 := OB.out.cell 3; have k4 := OB.out.cell 4; have k5 := OB.out.cell 5; have k6 := OB.out.cell 6; have k7 := OB.out.cell 7; have k8 := OB.out.cell 8; have k9 := OB.out.cell 9; have k10 := OB.out.cell 10; have k11 := OB.out.cell 11; have k12 := OB.out.cell 12; have k13 := OB.out.cell 13; have k14 := OB.out.cell 14; have k15 := OB.out.cell 15
        go_wp2_with fail
        clear k0 k1 k2 k3 k4 k5 k6 k7 k8 k9 k10 k11 k12 k13 k14 k15
        refine (addr1 _ 50 ak (by omega)).mono ?_
        rintro x w11a ⟨A11, n11, c11, rfl, hr11, hz11, o11⟩
        have R11 := hid hr11; have Z11 := hid hz11; have L11 := hr11.len
        have hl11 := opt_len 50 ak
        have V := hid (V.out.only_nil o11); have Q := hid (Q.out.trans o11); have OB := hid (OB.out.only o11 (by simp))
        clear hr11 hz11 o11
        go_wp2_with (at_builtin; refine wpList_app _ rfl (.tmp 67) (.tmp 70) _ rfl wrt.elemB (w.heap.size + 1) _ _ rfl V.out A11 n11 c11 (opt 50 ak) rfl R11.out Z11.out (by simp [zr_len, ref_four_len]; omega) (by simp [zr_len, ref_four_len, maxLen]; omega) OB.out.lt ?_)
        intro v11 w11 hv11 hg11 hb11
        have Q := hid (Q.out.own_grown V.out hg11 (by omega)); have OB := hid (OB.out.grown hg11 (fun h => by have := (V.out.lt _ h).1; omega)); have V := hid hv11
        clear hv11 hg11 hb11 R11 Z11 L11
        have k0 := OB.out.cell 0; have k1 := OB.out.cell 1; have k2 := OB.out.cell 2; have k3 := OB.out.cell 3; have k4 := OB.out.cell 4; have k5 := OB.out.cell 5; have k6 := OB.out.cell 6; have k7 := OB.out.cell 7; have k8 := OB.out.cell 8; have k9 := OB.out.cell 9; have k10 := OB.out.cell 10; have k11 := OB.out.cell 11; have k12 := OB.out.cell 12; have k13 := OB.out.cell 13; have k14 := OB.out.cell 14; have k15 := OB.out.cell 15
        go_wp2_with fail
        clear k0 k1 k2 k3 k4 k5 k6 k7 k8 k9 k10 k11 k12 k13 k14 k15
        refine (addr1 _ 51 ti (by omega)).mono ?_
        rintro x w12a ⟨A12, n12, c12, rfl, hr12, hz12, o12⟩
        have R12 := hid hr12; have Z12 := hid hz12; have L12 := hr12.len
        have hl12 := opt_len 51 ti
        have V := hid (V.out.only_nil o12); have Q := hid (Q.out.trans o12); have OB := hid (OB.out.only o12 (by simp))
        clear hr12 hz12 o12
        go_wp2_with (at_builtin; refine wpList_app _ rfl (.tmp 72) (.tmp 76) _ rfl wrt.elemB (w.heap.size + 1) _ _ rfl V.out A12 n12 c12 (opt 51 ti) rfl R12.out Z12.out (by simp [zr_len, ref_four_len]; omega) (by simp [zr_len, ref_four_len, maxLen]; omega) OB.out.lt ?_)
        intro v12 w12 hv12 hg12 hb12
        have Q := hid (Q.out.own_grown V.out hg12 (by omega)); have OB := hid (OB.out.grown hg12 (fun h => by have := (V.out.lt _ h).1; omega)); have V := hid hv12
        clear hv12 hg12 hb12 R12 Z12 L12
        have k0 := OB.out.cell 0; have k1 := OB.out.cell 1; have k2 := OB.out.cell 2; have k3 := OB.out.cell 3; have k4 := OB.out.cell 4; have k5 := OB.out.cell 5; have k6 := OB.out.cell 6; have k7 := OB.out.cell 7; have k8 := OB.out.cell 8; have k9 := OB.out.cell 9; have k10 := OB.out.cell 10; have k11 := OB.out.cell 11; have k12 := OB.out.cell 12; have k13 := OB.out.cell 13; have k14 := OB.out.cell 14; have k15 := OB.out.cell 15
        go_wp2_with fail
        clear k0 k1 k2 k3 k4 k5 k6 k7 k8 k9 k10 k11 k12 k13 k14 k15
        refine (addr1 _ 1 mk (by omega)).mono ?_
        rintro x w13a ⟨A13, n13, c13, rfl, hr13, hz13, o13⟩
        have R13 := hid hr13; have Z13 := hid hz13; have L13 := hr13.len
        have hl13 := opt_len 1 mk
        have V := hid (V.out.only_nil o13); have Q := hid (Q.out.trans o13); have OB := hid (OB.out.only o13 (by simp))
        clear hr13 hz13 o13
        go_wp2_with (at_builtin; refine wpList_app _ rfl (.tmp 78) (.tmp 81) _ rfl wrt.elemB (w.heap.size + 1) _ _ rfl V.out A13 n13 c13 (opt 1 mk) rfl R13.out Z13.out (by simp [zr_len, ref_four_len]; omega) (by simp [zr_len, ref_four_len, maxLen]; omega) OB.out.lt ?_)
        intro v13 w13 hv13 hg13 hb13
        have Q := hid (Q.out.own_grown V.out hg13 (by omega)); have OB := hid (OB.out.grown hg13 (fun h => by have := (V.out.lt _ h).1; omega)); have V := hid hv13
        clear hv13 hg13 hb13 R13 Z13 L13
        have k0 := OB.out.cell 0; have k1 := OB.out.cell 1; have k2 := OB.out.cell 2; have k3 := OB.out.cell 3; have k4 := OB.out.cell 4; have k5 := OB.out.cell 5; have k6 := OB.out.cell 6; have k7 := OB.out.cell 7; have k8 := OB.out.cell 8; have k9 := OB.out.cell 9; have k10 := OB.out.cell 10; have k11 := OB.out.cell 11; have k12 := OB.out.cell 12; have k13 := OB.out.cell 13; have k14 := OB.out.cell 14; have k15 := OB.out.cell 15
        go_wp2_with fail
        clear k0 k1 k2 k3 k4 k5 k6 k7 k8 k9 k10 k11 k12 k13 k14 k15
        refine (addr1 _ 3 ro (by omega)).mono ?_
        rintro x w14a ⟨A14, n14, c14, rfl, hr14, hz14, o14⟩
        have R14 := hid hr14; have Z14 := hid hz14; have L14 := hr14.len
        have hl14 := opt_len 3 ro
        have V := hid (V.out.only_nil o14); have Q := hid (Q.out.trans o14); have OB := hid (OB.out.only o14 (by simp))
        clear hr14 hz14 o14
        go_wp2_with (at_builtin; refine wpList_app _ rfl (.tmp 83) (.tmp 86) _ rfl wrt.elemB (w.heap.size + 1) _ _ rfl V.out A14 n14 c14 (opt 3 ro) rfl R14.out Z14.out (by simp [zr_len, ref_four_len]; omega) (by simp [zr_len, ref_four_len, maxLen]; omega) OB.out.lt ?_)
        intro v14 w14 hv14 hg14 hb14
        have Q := hid (Q.out.own_grown V.out hg14 (by omega)); have OB := hid (OB.out.grown hg14 (fun h => by have := (V.out.lt _ h).1; omega)); have V := hid hv14
        clear hv14 hg14 hb14 R14 Z14 L14
        have k0 := OB.out.cell 0; have k1 := OB.out.cell 1; have k2 := OB.out.cell 2; have k3 := OB.out.cell 3; have k4 := OB.out.cell 4; have k5 := OB.out.cell 5; have k6 := OB.out.cell 6; have k7 := OB.out.cell 7; have k8 := OB.out.cell 8; have k9 := OB.out.cell 9; have k10 := OB.out.cell 10; have k11 := OB.out.cell 11; have k12 := OB.out.cell 12; have k13 := OB.out.cell 13; have k14 := OB.out.cell 14; have k15 := OB.out.cell 15
        go_wp2_with fail
        clear k0 k1 k2 k3 k4 k5 k6 k7 k8 k9 k10 k11 k12 k13 k14 k15
        refine (addr1 _ 6 re (by omega)).mono ?_
        rintro x w15a ⟨A15, n15, c15, rfl, hr15, hz15, o15⟩
        have R15 := hid hr15; have Z15 := hid hz15; have L15 := hr15.len
        have hl15 := opt_len 6 re
        have V := hid (V.out.only_nil o15); have Q := hid (Q.out.trans o15); have OB := hid (OB.out.only o15 (by simp))
        clear hr15 hz15 o15
        go_wp2_with (at_builtin; refine wpList_app _ rfl (.tmp 88) (.tmp 91) _ rfl wrt.elemB (w.heap.size + 1) _ _ rfl V.out A15 n15 c15 (opt 6 re) rfl R15.out Z15.out (by simp [zr_len, ref_four_len]; omega) (by simp [zr_len, ref_four_len, maxLen]; omega) OB.out.lt ?_)
        intro v15 w15 hv15 hg15 hb15
        have Q := hid (Q.out.own_grown V.out hg15 (by omega)); have OB := hid (OB.out.grown hg15 (fun h => by have := (V.out.lt _ h).1; omega)); have V := hid hv15
        clear hv15 hg15 hb15 R15 Z15 L15
        have F := hid (Own.lit .u8 5 w15 0 [255] #[.int .u8 255] 1 rfl rfl (Nat.zero_le _) (by simp [maxLen]) (by decide)).rd
        have V := hid (V.out.alloc (.cells #[.int .u8 255] 5)); have Q := hid (Q.out.alloc (.cells #[.int .u8 255] 5)); have OB := hid (OB.out.alloc (.cells #[.int .u8 255] 5))
        go_wp2_with (at_builtin; refine wpList_app _ rfl (.tmp 93) (.tmp 94) _ rfl wrt.elemB (w.heap.size + 1) _ _ rfl V.out (some ⟨w15.heap.size, 0, none⟩) 1 1 [255] rfl F.out (by intro e; cases e) (by simp [zr_len, ref_four_len]; omega) (by simp [zr_len, ref_four_len, maxLen]; omega) OB.out.lt ?_)
        intro v16 w16 hv16 hg16 hb16
        have Q := hid (Q.out.own_grown V.out hg16 (by omega)); have V := hid hv16
        clear hv16 hg16 hb16
        go_wp2
        go_ret2
        refine ⟨v16, rfl, ?_, Q.out⟩
        refine Own.mono_base ?_ (show w.heap.size ≤ w.heap.size + 1 by omega)
        have h9 := V.out
        simpa [enc, head, ref.four] using h9
    · refine rgn.stepE rfl rfl (fun K hK => ?_)
      go_simp
      refine (ref.four1 _ id).mono ?_
      rintro x w6 ⟨g6, rfl, h6, o6⟩
      refine hK _ _ (AnyW.any _ _) ?_
      clear hK K
      have F := hid h6.rd
      have Q := hid (Q.out.trans o6); have OB := hid (OB.out.only o6 (by simp))
      clear h6 o6
      try simp only [Act.put, List.setIfInBounds_toArray, List.set_cons_zero, List.set_cons_succ]
      refine rgn.Walk.es ?_
      refine rgn.stepE rfl rfl (fun K hK => ?_)
      have qq := OB.out.cell 0
      go_simp
      refine hK _ _ (AnyW.any _ _) ?_
      clear hK K qq
      try simp only [Act.put, List.setIfInBounds_toArray, List.set_cons_zero, List.set_cons_succ]
      refine rgn.Walk.ys (v := ?_) rfl rfl rfl ?_ ?_
      rotate_left 1
      · intro W' hW'
        go_simp
        try with_reducible rfl
      try simp only [Act.put, List.setIfInBounds_toArray, List.set_cons_zero, List.set_cons_succ]
      refine rgn.Walk.es ?_
      refine rgn.stepE rfl rfl (fun K hK => ?_)
      go_simp
      refine hK _ _ (AnyW.any _ _) ?_
      clear hK K
      have V := hid (lit0 _ op OB.out.lt HW4.out)
      have Q := hid (Q.out.alloc (.cells #[.int .u8 op, .int .u8 1, .int .u8 6, .int .u8 0] 5)); have OB := hid (OB.out.alloc (.cells #[.int .u8 op, .int .u8 1, .int .u8 6, .int .u8 0] 5))
      have F := hid (F.out.alloc (.cells #[.int .u8 op, .int .u8 1, .int .u8 6, .int .u8 0] 5))
      try simp only [Act.put, List.setIfInBounds_toArray, List.set_cons_zero, List.set_cons_succ]
      refine rgn.Walk.es ?_
      refine rgn.stepE rfl rfl (fun K hK => ?_)
      refine opApp rfl (.tmp 36) (.tmp 39) _ rfl wrt.elemB (w.heap.size + 1) _ _ rfl V.out (some ⟨g6, 0, none⟩) 4 4 (ref.four id) rfl F.out (by intro e; cases e) (by simp) (by simp [maxLen]) OB.out.lt ?_
      intro v7 w7 hv7 hg7 hb7
      refine hK _ _ (AnyW.any _ _) ?_
      clear hK K
      have Q := hid (Q.out.own_grown V.out hg7 (by omega)); have OB := hid (OB.out.grown hg7 (fun h => by have := (V.out.lt _ h).1; omega)); have V := hid hv7
      clear hv7 hg7 hb7 F
      try simp only [Act.put, List.setIfInBounds_toArray, List.set_cons_zero, List.set_cons_succ]
      refine rgn.Walk.es ?_
      refine rgn.stepE rfl rfl (fun K hK => ?_)
      go_simp
      refine hK _ _ (AnyW.any _ _) ?_
      clear hK K
      try simp only [Act.put, List.setIfInBounds_toArray, List.set_cons_zero, List.set_cons_succ]
      refine rgn.Walk.zs (NoPanic.normal ?_)
      go_wp2_with (at_builtin; refine wpList_app0 (zr 8) rfl (.tmp 41) (.const (.int .i64 8)) _ _ rfl wrt.elemB Try.underlying3 (w.heap.size + 1) _ _ rfl V.out 8 rfl rfl (by omega) (by simp) (by decide) (by simp [zr_len, ref_four_len]) (by simp [zr_len, ref_four_len, maxLen]) OB.out.lt ?_)
      intro v4 w4 hv4 hg4 hb4
      have Q := hid (Q.out.own_grown V.out hg4 (by omega)); have OB := hid (OB.out.grown hg4 (fun h => by have := (V.out.lt _ h).1; omega)); have V := hid hv4
      clear hv4 hg4 hb4
      have k0 := OB.out.cell 0; have k1 := OB.out.cell 1; have k2 := OB.out.cell 2; have k3 := OB.out.cell 3; have k4 := OB.out.cell 4; have k5 := OB.out.cell 5; have k6 := OB.out.cell 6; have k7 := OB.out.cell 7; have k8 := OB.out.cell 8; have k9 := OB.out.cell 9; have k10 := OB.out.cell 10; have k11 := OB.out.cell 11; have k12 := OB.out.cell 12; have k13 := OB.out.cell 13; have k14 := OB.out.cell 14; have k15 := OB.out.cell 15
      go_wp2_with fail
      clear k0 k1 k2 k3 k4 k5 k6 k7 k8 k9 k10 k11 k12 k13 k14 k15
      refine (ref.four1 _ yo).mono ?_
      rintro x w5a ⟨g5, rfl, h5, o5⟩
      have F := hid h5.rd; have V := hid (V.out.only_nil o5); have Q := hid (Q.out.trans o5); have OB := hid (OB.out.only o5 (by simp))
      clear h5 o5
      go_wp2_with (at_builtin; refine wpList_app _ rfl (.tmp 43) (.tmp 46) _ rfl wrt.elemB (w.heap.size + 1) _ _ rfl V.out (some ⟨g5, 0, none⟩) 4 4 (ref.four yo) rfl F.out (by intro e; cases e) (by simp [zr_len, ref_four_len]; try omega) (by simp [zr_len, ref_four_len, maxLen]; try omega) OB.out.lt ?_)
      intro v5 w5 hv5 hg5 hb5
      have Q := hid (Q.out.own_grown V.out hg5 (by omega)); have OB := hid (OB.out.grown hg5 (fun h => by have := (V.out.lt _ h).1; omega)); have V := hid hv5
      clear hv5 hg5 hb5
      clear F
      go_wp2_with (at_builtin; refine wpList_app0 (zr 8) rfl (.tmp 48) (.const (.int .i64 8)) _ _ rfl wrt.elemB Try.underlying3 (w.heap.size + 1) _ _ rfl V.out 8 rfl rfl (by omega) (by simp) (by decide) (by simp [zr_len, ref_four_len]) (by simp [zr_len, ref_four_len, maxLen]) OB.out.lt ?_)
      intro v6 w6 hv6 hg6 hb6
      have Q := hid (Q.out.own_grown V.out hg6 (by omega)); have OB := hid (OB.out.grown hg6 (fun h => by have := (V.out.lt _ h).1; omega)); have V := hid hv6
      clear hv6 hg6 hb6
      have HCl : Hid (Rd .u8 w6 (some ⟨w.heap.size, 3, none⟩) 6 [c0, c1, c2, c3, c4, c5]) := hid ⟨rfl, HCc.out, fun _ => ⟨w.heap.size, 3, rfl, fun j hj => by
        rcases (by omega : j = 0 ∨ j = 1 ∨ j = 2 ∨ j = 3 ∨ j = 4 ∨ j = 5) with rfl | rfl | rfl | rfl | rfl | rfl
        · exact OB.out.cell 3
        · exact OB.out.cell 4
        · exact OB.out.cell 5
        · exact OB.out.cell 6
        · exact OB.out.cell 7
        · exact OB.out.cell 8⟩⟩
      go_wp2_with (at_builtin; refine wpList_app _ rfl (.tmp 50) (.tmp 52) _ rfl wrt.elemB (w.heap.size + 1) _ _ rfl V.out (some ⟨w.heap.size, 3, none⟩) 6 _ [c0, c1, c2, c3, c4, c5] rfl HCl.out (by intro e; cases e) (by simp [zr_len, ref_four_len]; try omega) (by simp [zr_len, ref_four_len, maxLen]; try omega) OB.out.lt ?_)
      intro v7 w7 hv7 hg7 hb7
      have Q := hid (Q.out.own_grown V.out hg7 (by omega)); have OB := hid (OB.out.grown hg7 (fun h => by have := (V.out.lt _ h).1; omega)); have V := hid hv7
      clear hv7 hg7 hb7
      clear HCl
      go_wp2_with (at_builtin; refine wpList_app0 (zr 202) rfl (.tmp 54) (.const (.int .i64 202)) _ _ rfl wrt.elemB Try.underlying3 (w.heap.size + 1) _ _ rfl V.out 202 rfl rfl (by omega) (by simp) (by decide) (by simp [zr_len, ref_four_len]) (by simp [zr_len, ref_four_len, maxLen]) OB.out.lt ?_)
      intro v8 w8 hv8 hg8 hb8
      have Q := hid (Q.out.own_grown V.out hg8 (by omega)); have OB := hid (OB.out.grown hg8 (fun h => by have := (V.out.lt _ h).1; omega)); have V := hid hv8
      clear hv8 hg8 hb8
      have k0 := OB.out.cell 0; have k1 := OB.out.cell 1; have k2 := OB.out.cell 2; have k3 := OB.out.cell 3; have k4 := OB.out.cell 4; have k5 := OB.out.cell 5; have k6 := OB.out.cell 6; have k7 := OB.out.cell 7; have k8 := OB.out.cell 8; have k9 := OB.out.cell 9; have k10 := OB.out.cell 10; have k11 := OB.out.cell 11; have k12 := OB.out.cell 12; have k13 := OB.out.cell 13; have k14 := OB.out.cell 14; have k15 := OB.out.cell 15
      have HW7 : Hid (∀ z ∈ [99, 130, 83, 99, 53, 1, ty], (Lit.int .u8 z).wf = true) := hid (by
        intro z hz
        simp only [List.mem_cons, List.not_mem_nil, or_false] at hz
        apply (Lit.wf_int_iff .u8 z).2
        show 0 ≤ z ∧ z ≤ 255
        omega)
      have F := hid (Own.lit .u8 5 w8 0 [99, 130, 83, 99, 53, 1, ty] #[.int .u8 99, .int .u8 130, .int .u8 83, .int .u8 99, .int .u8 53, .int .u8 1, .int .u8 ty] 7 rfl rfl (Nat.zero_le _) (by simp [maxLen]) HW7.out).rd
      have V := hid (V.out.alloc (.cells #[.int .u8 99, .int .u8 130, .int .u8 83, .int .u8 99, .int .u8 53, .int .u8 1, .int .u8 ty] 5)); have Q := hid (Q.out.alloc (.cells #[.int .u8 99, .int .u8 130, .int .u8 83, .int .u8 99, .int .u8 53, .int .u8 1, .int .u8 ty] 5)); have OB := hid (OB.out.alloc (.cells #[.int .u8 99, .int .u8 130, .int .u8 83, .int .u8 99, .int .u8 53, .int .u8 1, .int .u8 ty] 5))
      go_wp2_with (at_builtin; refine wpList_app _ rfl (.tmp 56) (.tmp 60) _ rfl wrt.elemB (w.heap.size + 1) _ _ rfl V.out (some ⟨w8.heap.size, 0, none⟩) 7 7 [99, 130, 83, 99, 53, 1, ty] rfl F.out (by intro e; cases e) (by simp [zr_len, ref_four_len]; try omega) (by simp [zr_len, ref_four_len, maxLen]; try omega) OB.out.lt ?_)
      intro v9 w9 hv9 hg9 hb9
      have Q := hid (Q.out.own_grown V.out hg9 (by omega)); have OB := hid (OB.out.grown hg9 (fun h => by have := (V.out.lt _ h).1; omega)); have V := hid hv9
      clear hv9 hg9 hb9
      clear F k0 k1 k2 k3 k4 k5 k6 k7 k8 k9 k10 k11 k12 k13 k14 k15
      have k0 := OB.out.cell 0; have k1 := OB.out.cell 1; have k2 := OB.out.cell 2; have k3 := OB.out.cell 3; have k4 := OB.out.cell 4; have k5 := OB.out.cell 5; have k6 := OB.out.cell 6; have k7 := OB.out.cell 7; have k8 := OB.out.cell 8; have k9 := OB.out.cell 9; have k10 := OB.out.cell 10; have k11 := OB.out.cell 11; have k12 := OB.out.cell 12; have k13 := OB.out.cell 13; have k14 := OB.out.cell 14; have k15 := OB.out.cell 15
      go_wp2_with fail
      clear k0 k1 k2 k3 k4 k5 k6 k7 k8 k9 k10 k11 k12 k13 k14 k15
      refine (addr1 _ 54 sv (by omega)).mono ?_
      rintro x w10a ⟨A10, n10, c10, rfl, hr10, hz10, o10⟩
      have R10 := hid hr10; have Z10 := hid hz10; have L10 := hr10.len
      have hl10 := opt_len 54 sv
      have V := hid (V.out.only_nil o10); have Q := hid (Q.out.trans o10); have OB := hid (OB.out.only o10 (by simp))
      clear hr10 hz10 o10
      go_wp2_with (at_builtin; refine wpList_app _ rfl (.tmp 62) (.tmp 65) _ rfl wrt.elemB (w.heap.size + 1) _ _ rfl V.out A10 n10 c10 (opt 54 sv) rfl R10.out Z10.out (by simp [zr_len, ref_four_len]; omega) (by simp [zr_len, ref_four_len, maxLen]; omega) OB.out.lt ?_)
      intro v10 w10 hv10 hg10 hb10
      have Q := hid (Q.out.own_grown V.out hg10 (by omega)); have OB := hid (OB.out.grown hg10 (fun h => by have := (V.out.lt _ h).1; omega)); have V := hid hv10
      clear hv10 hg10 hb10 R10 Z10 L10
      have k0 := OB.out.cell 0; have k1 := OB.out.cell 1; have k2 := OB.out.cell 2; have k3 := OB.out.cell 3; have k4 := OB.out.cell 4; have k5 := OB.out.cell 5; have k6 := OB.out.cell 6; have k7 := OB.out.cell 7; have k8 := OB.out.cell 8; have k9 := OB.out.cell 9; have k10 := OB.out.cell 10; have k11 := OB.out.cell 11; have k12 := OB.out.cell 12; have k13 := OB.out.cell 13; have k14 := OB.out.cell 14; have k15 := OB.out.cell 15
      go_wp2_with fail
      clear k0 k1 k2 k3 k4 k5 k6 k7 k8 k9 k10 k11 k12 k13 k14 k15
      refine (addr1 _ 50 ak (by omega)).mono ?_
      rintro x w11a ⟨A11, n11, c11, rfl, hr11, hz11, o11⟩
      have R11 := hid hr11; have Z11 := hid hz11; have L11 := hr11.len
      have hl11 := opt_len 50 ak
      have V := hid (V.out.only_nil o11); have Q := hid (Q.out.trans o11); have OB := hid (OB.out.only o11 (by simp))
      clear hr11 hz11 o11
      go_wp2_with (at_builtin; refine wpList_app _ rfl (.tmp 67) (.tmp 70) _ rfl wrt.elemB (w.heap.size + 1) _ _ rfl V.out A11 n11 c11 (opt 50 ak) rfl R11.out Z11.out (by simp [zr_len, ref_four_len]; omega) (by simp [zr_len, ref_four_len, maxLen]; omega) OB.out.lt ?_)
      intro v11 w11 hv11 hg11 hb11
      have Q := hid (Q.out.own_grown V.out hg11 (by omega)); have OB := hid (OB.out.grown hg11 (fun h => by have := (V.out.lt _ h).1; omega)); have V := hid hv11
      clear hv11 hg11 hb11 R11 Z11 L11
      have k0 := OB.out.cell 0; have k1 := OB.out.cell 1; have k2 := OB.out.cell 2; have k3 := OB.out.cell 3; have k4 := OB.out.cell 4; have k5 := OB.out.cell 5; have k6 := OB.out.cell 6; have k7 := OB.out.cell 7; have k8 := OB.out.cell 8; have k9 := OB.out.cell 9; have k10 := OB.out.cell 10; have k11 := OB.out.cell 11; have k12 := OB.out.cell 12; have k13 := OB.out.cell 13; have k14 := OB.out.cell 14; have k15 := OB.out.cell 15
      go_wp2_with fail
      clear k0 k1 k2 k3 k4 k5 k6 k7 k8 k9 k10 k11 k12 k13 k14 k15
      refine (addr1 _ 51 ti (by omega)).mono ?_
      rintro x w12a ⟨A12, n12, c12, rfl, hr12, hz12, o12⟩
      have R12 := hid hr12; have Z12 := hid hz12; have L12 := hr12.len
      have hl12 := opt_len 51 ti
      have V := hid (V.out.only_nil o12); have Q := hid (Q.out.trans o12); have OB := hid (OB.out.only o12 (by simp))
      clear hr12 hz12 o12
      go_wp2_with (at_builtin; refine wpList_app _ rfl (.tmp 72) (.tmp 76) _ rfl wrt.elemB (w.heap.size + 1) _ _ rfl V.out A12 n12 c12 (opt 51 ti) rfl R12.out Z12.out (by simp [zr_len, ref_four_len]; omega) (by simp [zr_len, ref_four_len, maxLen]; omega) OB.out.lt ?_)
      intro v12 w12 hv12 hg12 hb12
      have Q := hid (Q.out.own_grown V.out hg12 (by omega)); have OB := hid (OB.out.grown hg12 (fun h => by have := (V.out.lt _ h).1; omega)); have V := hid hv12
      clear hv12 hg12 hb12 R12 Z12 L12
      have k0 := OB.out.cell 0; have k1 := OB.out.cell 1; have k2 := OB.out.cell 2; have k3 := OB.out.cell 3; have k4 := OB.out.cell 4; have k5 := OB.out.cell 5; have k6 := OB.out.cell 6; have k7 := OB.out.cell 7; have k8 := OB.out.cell 8; have k9 := OB.out.cell 9; have k10 := OB.out.cell 10; have k11 := OB.out.cell 11; have k12 := OB.out.cell 12; have k13 := OB.out.cell 13; have k14 := OB.out.cell 14; have k15 := OB.out.cell 15
      go_wp2_with fail
      clear k0 k1 k2 k3 k4 k5 k6 k7 k8 k9 k10 k11 k12 k13 k14 k15
      refine (addr1 _ 1 mk (by omega)).mono ?_
      rintro x w13a ⟨A13, n13, c13, rfl, hr13, hz13, o13⟩
      have R13 := hid hr13; have Z13 := hid hz13; have L13 := hr13.len
      have hl13 := opt_len 1 mk
      have V := hid (V.out.only_nil o13); have Q := hid (Q.out.trans o13); have OB := hid (OB.out.only o13 (by simp))
      clear hr13 hz13 o13
      go_wp2_with (at_builtin; refine wpList_app _ rfl (.tmp 78) (.tmp 81) _ rfl wrt.elemB (w.heap.size + 1) _ _ rfl V.out A13 n13 c13 (opt 1 mk) rfl R13.out Z13.out (by simp [zr_len, ref_four_len]; omega) (by simp [zr_len, ref_four_len, maxLen]; omega) OB.out.lt ?_)
      intro v13 w13 hv13 hg13 hb13
      have Q := hid (Q.out.own_grown V.out hg13 (by omega)); have OB := hid (OB.out.grown hg13 (fun h => by have := (V.out.lt _ h).1; omega)); have V := hid hv13
      clear hv13 hg13 hb13 R13 Z13 L13
      have k0 := OB.out.cell 0; have k1 := OB.out.cell 1; have k2 := OB.out.cell 2; have k3 := OB.out.cell 3; have k4 := OB.out.cell 4; have k5 := OB.out.cell 5; have k6 := OB.out.cell 6; have k7 := OB.out.cell 7; have k8 := OB.out.cell 8; have k9 := OB.out.cell 9; have k10 := OB.out.cell 10; have k11 := OB.out.cell 11; have k12 := OB.out.cell 12; have k13 := OB.out.cell 13; have k14 := OB.out.cell 14; have k15 := OB.out.cell 15
      go_wp2_with fail
      clear k0 k1 k2 k3 k4 k5 k6 k7 k8 k9 k10 k11 k12 k13 k14 k15
      refine (addr1 _ 3 ro (by omega)).mono ?_
      rintro x w14a ⟨A14, n14, c14, rfl, hr14, hz14, o14⟩
      have R14 := hid hr14; have Z14 := hid hz14; have L14 := hr14.len
      have hl14 := opt_len 3 ro
      have V := hid (V.out.only_nil o14); have Q := hid (Q.out.trans o14); have OB := hid (OB.out.only o14 (by simp))
      clear hr14 hz14 o14
      go_wp2_with (at_builtin; refine wpList_app _ rfl (.tmp 83) (.tmp 86) _ rfl wrt.elemB (w.heap.size + 1) _ _ rfl V.out A14 n14 c14 (opt 3 ro) rfl R14.out Z14.out (by simp [zr_len, ref_four_len]; omega) (by simp [zr_len, ref_four_len, maxLen]; omega) OB.out.lt ?_)
      intro v14 w14 hv14 hg14 hb14
      have Q := hid (Q.out.own_grown V.out hg14 (by omega)); have OB := hid (OB.out.grown hg14 (fun h => by have := (V.out.lt _ h).1; omega)); have V := hid hv14
      clear hv14 hg14 hb14 R14 Z14 L14
      have k0 := OB.out.cell 0; have k1 := OB.out.cell 1; have k2 := OB.out.cell 2; have k3 := OB.out.cell 3; have k4 := OB.out.cell 4; have k5 := OB.out.cell 5; have k6 := OB.out.cell 6; have k7 := OB.out.cell 7; have k8 := OB.out.cell 8; have k9 := OB.out.cell 9; have k10 := OB.out.cell 10; have k11 := OB.out.cell 11; have k12 := OB.out.cell 12; have k13 := OB.out.cell 13; have k14 := OB.out.cell 14; have k15 := OB.out.cell 15
      go_wp2_with fail
      clear k0 k1 k2 k3 k4 k5 k6 k7 k8 k9 k10 k11 k12 k13 k14 k15
      refine (addr1 _ 6 re (by omega)).mono ?_
      rintro x w15a ⟨A15, n15, c15, rfl, hr15, hz15, o15⟩
      have R15 := hid hr15; have Z15 := hid hz15; have L15 := hr15.len
      have hl15 := opt_len 6 re
      have V := hid (V.out.only_nil o15); have Q := hid (Q.out.trans o15); have OB := hid (OB.out.only o15 (by simp))
      clear hr15 hz15 o15
      go_wp2_with (at_builtin; refine wpList_app _ rfl (.tmp 88) (.tmp 91) _ rfl wrt.elemB (w.heap.size + 1) _ _ rfl V.out A15 n15 c15 (opt 6 re) rfl R15.out Z15.out (by simp [zr_len, ref_four_len]; omega) (by simp [zr_len, ref_four_len, maxLen]; omega) OB.out.lt ?_)
      intro v15 w15 hv15 hg15 hb15
      have Q := hid (Q.out.own_grown V.out hg15 (by omega)); have OB := hid (OB.out.grown hg15 (fun h => by have := (V.out.lt _ h).1; omega)); have V := hid hv15
      clear hv15 hg15 hb15 R15 Z15 L15
      have F := hid (Own.lit .u8 5 w15 0 [255] #[.int .u8 255] 1 rfl rfl (Nat.zero_le _) (by simp [maxLen]) (by decide)).rd
      have V := hid (V.out.alloc (.cells #[.int .u8 255] 5)); have Q := hid (Q.out.alloc (.cells #[.int .u8 255] 5)); have OB := hid (OB.out.alloc (.cells #[.int .u8 255] 5))
      go_wp2_with (at_builtin; refine wpList_app _ rfl (.tmp 93) (.tmp 94) _ rfl wrt.elemB (w.heap.size + 1) _ _ rfl V.out (some ⟨w15.heap.size, 0, none⟩) 1 1 [255] rfl F.out (by intro e; cases e) (by simp [zr_len, ref_four_len]; omega) (by simp [zr_len, ref_four_len, maxLen]; omega) OB.out.lt ?_)
      intro v16 w16 hv16 hg16 hb16
      have Q := hid (Q.out.own_grown V.out hg16 (by omega)); have V := hid hv16
      clear hv16 hg16 hb16
      go_wp2
      go_ret2
      refine ⟨v16, rfl, ?_, Q.out⟩
      refine Own.mono_base ?_ (show w.heap.size ≤ w.heap.size + 1 by omega)
      have h9 := V.out
      simpa [enc, head, ref.four] using h9
end Go.Proofs.Ytdpmjghdmpaehaa.ls
