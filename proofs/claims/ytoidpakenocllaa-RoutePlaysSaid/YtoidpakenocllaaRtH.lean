/-
  Chapter 8 (route): two lists of routes that are one; what is known; a Table among other rows, by a walk of each text. Conditions: none but those typed.
-/
import Derived.Test.YtoidpakenocllaaRtG
namespace Go.Proofs.Ytoidpakenocllaa.rou
set_option linter.unusedVariables false
set_option linter.unusedSimpArgs false
open Go.ChangeShapes Go.WideShapes Go.ChangeAt Go.RowKit Go.IntWalk Go.Lib
theorem eqRt (a b c d : Int) (W : World) : (Op.equalIn 10000 34 (.agg #[.int .u32 a, .int .i64 b, .int .u32 c, .int .i64 d]) (.agg #[.int .u32 a, .int .i64 b, .int .u32 c, .int .i64 d])).run Try.prog W = .ok true W := by
  go_simp
set_option maxRecDepth 100000 in
set_option maxHeartbeats 4000000 in
theorem rows1 (w : World) (A B : Option Addr) (n c1 c2 : Nat) (D : List Rt) (h1 : RdS w A n 4 (rws Rt.enc D)) (h2 : RdS w B n 4 (rws Rt.enc D)) (hn : D.length = n) (hb : n ≤ 100000) :
    Calls Try.prog 15 #[.slice A n c1, .slice B n c2] w fun x w' => x = .returned (.bool true) ∧ Only [] w w' := by
  have H1 := hid h1; have H2 := hid h2; have HN := hid hn
  clear h1 h2 hn
  go_enter Try.func15, Try.ntmps15
  go_wp2_with fail
  go_loopw [5] (fun i wr => ∃ k : Nat, k ≤ n ∧ i = .int .i64 k ∧ Hid (Only [] w wr)) (fun i _ => n - (RowKit.intOf i).toNat)
  case atStart => exact ⟨0, by omega, rfl, hid (Only.refl _ _)⟩
  case round =>
    obtain ⟨k, hk, rfl, HQ⟩ := hrel
    by_cases hlt : k < n
    · have hkl : k < D.length := by rw [HN.out]; exact hlt
      obtain ⟨b, off, rfl, hb1, hc1⟩ := (H1.out.only_nil HQ.out).elem HN.out enc_len (by omega) k hkl
      obtain ⟨b2, off2, rfl, hb2, hc2⟩ := (H2.out.only_nil HQ.out).elem HN.out enc_len (by omega) k hkl
      generalize D[k] = r at hc1 hc2
      obtain ⟨ra, rb, rc, rd⟩ := r
      have HC1 := hid hc1; have HC2 := hid hc2
      clear hc1 hc2 hkl
      go_wp2_with fail
      refine wp_region_noPanic ?_
      refine rgn.regionT (R := Only []) (by kernel_rfl) (Only.refl []) (fun _ _ _ => Only.trans) (fun _ _ _ _ _ h => h) (.y 0 (.y 1 (.y 2 (.y 3 (.y 4 (.y 5 (.y 6 (.y 7 (.y 8 .z))))))))) (by kernel_rfl) (fun W hWd => ?_)
      have HWd := hid hWd; clear hWd
      have q8 : Only [] wr W := Only.eq_drew (Only.refl [] _) HWd.out
      have QW := hid q8; have QQ := hid (HQ.out.trans q8)
      clear q8 HWd
      refine rgn.Walk.ys (v := ?_) rfl rfl rfl ?_ ?_
      rotate_left 1
      · intro W' hW'
        go_simp
        try with_reducible rfl
      try simp only [Act.put, List.setIfInBounds_toArray, List.set_cons_zero, List.set_cons_succ]
      refine rgn.Walk.ys (v := ?_) rfl rfl rfl ?_ ?_
      rotate_left 1
      · intro W' hW'
        go_simp
        try with_reducible rfl
      try simp only [Act.put, List.setIfInBounds_toArray, List.set_cons_zero, List.set_cons_succ]
      refine rgn.Walk.ys (v := ?_) rfl rfl rfl ?_ ?_
      rotate_left 1
      · intro W' hW'
        go_simp
        try with_reducible rfl
      try simp only [Act.put, List.setIfInBounds_toArray, List.set_cons_zero, List.set_cons_succ]
      refine rgn.Walk.ys (v := ?_) rfl rfl rfl ?_ ?_
      rotate_left 1
      · intro W' hW'
        have q0 := (QW.out.trans hW').keep (show wr.cell? ⟨b, off + k * 4, none⟩ = _ from (by have := HC1.out 0 _ rfl; rwa [Nat.add_zero] at this))
        have q1 := (QW.out.trans hW').keep (show wr.cell? ⟨b, off + k * 4 + 1, none⟩ = _ from HC1.out 1 _ rfl)
        have q2 := (QW.out.trans hW').keep (show wr.cell? ⟨b, off + k * 4 + 2, none⟩ = _ from HC1.out 2 _ rfl)
        have q3 := (QW.out.trans hW').keep (show wr.cell? ⟨b, off + k * 4 + 3, none⟩ = _ from HC1.out 3 _ rfl)
        go_simp
        try with_reducible rfl
      try simp only [Act.put, List.setIfInBounds_toArray, List.set_cons_zero, List.set_cons_succ]
      refine rgn.Walk.ys (v := ?_) rfl rfl rfl ?_ ?_
      rotate_left 1
      · intro W' hW'
        go_simp
        try with_reducible rfl
      try simp only [Act.put, List.setIfInBounds_toArray, List.set_cons_zero, List.set_cons_succ]
      refine rgn.Walk.ys (v := ?_) rfl rfl rfl ?_ ?_
      rotate_left 1
      · intro W' hW'
        go_simp
        try with_reducible rfl
      try simp only [Act.put, List.setIfInBounds_toArray, List.set_cons_zero, List.set_cons_succ]
      refine rgn.Walk.ys (v := ?_) rfl rfl rfl ?_ ?_
      rotate_left 1
      · intro W' hW'
        go_simp
        try with_reducible rfl
      try simp only [Act.put, List.setIfInBounds_toArray, List.set_cons_zero, List.set_cons_succ]
      refine rgn.Walk.ys (v := ?_) rfl rfl rfl ?_ ?_
      rotate_left 1
      · intro W' hW'
        have q0 := (QW.out.trans hW').keep (show wr.cell? ⟨b2, off2 + k * 4, none⟩ = _ from (by have := HC2.out 0 _ rfl; rwa [Nat.add_zero] at this))
        have q1 := (QW.out.trans hW').keep (show wr.cell? ⟨b2, off2 + k * 4 + 1, none⟩ = _ from HC2.out 1 _ rfl)
        have q2 := (QW.out.trans hW').keep (show wr.cell? ⟨b2, off2 + k * 4 + 2, none⟩ = _ from HC2.out 2 _ rfl)
        have q3 := (QW.out.trans hW').keep (show wr.cell? ⟨b2, off2 + k * 4 + 3, none⟩ = _ from HC2.out 3 _ rfl)
        go_simp
        try with_reducible rfl
      try simp only [Act.put, List.setIfInBounds_toArray, List.set_cons_zero, List.set_cons_succ]
      refine rgn.Walk.ys (v := ?_) rfl rfl rfl ?_ ?_
      rotate_left 1
      · intro W' hW'
        have eqq := eqRt ra rb rc rd W'
        go_simp
        try with_reducible rfl
      try simp only [Act.put, List.setIfInBounds_toArray, List.set_cons_zero, List.set_cons_succ]
      refine rgn.Walk.zs (NoPanic.normal ?_)
      have eqq := eqRt ra rb rc rd
      go_wp2_with fail
      go_roundw
      case rel => exact ⟨k + 1, by omega, by first | rfl | go_num, QQ⟩
      case measure => simp [RowKit.intOf]; omega
    · go_wp2_with fail
      go_ret
      exact ⟨rfl, HQ.out⟩
section
variable {w0 w w' : World} {base g B n sz : Nat} {t t' : Tr} {D D' : List Rt} {e : TypeId} {v : Value} {xs : List Value}
/-- Another row stands as it was. -/
theorem TStep.row (h : TStep w base g t w' t' D') (hv : w.ownsRow B e sz v n xs) (hd : ∀ j, v.ownBlock = some j → j ≠ g ∧ j ∉ t.bks) : w'.ownsRow B e sz v n xs ∧ ∀ j, v.ownBlock = some j → j ≠ g ∧ j ∉ t'.bks := by
  refine ⟨own_only hv h.only (fun j hj hm => ?_), fun j hj => ⟨(hd j hj).1, fun hm => ?_⟩⟩
  · rcases List.mem_cons.1 hm with h1 | h1
    · exact (hd j hj).1 h1
    · exact (hd j hj).2 h1
  · rcases h.bk j hm with h1 | h1
    · exact (hd j hj).2 h1
    · have := (own_lt hv j hj).2; omega
/-- What was there ahead of all stands as it was. -/
theorem TStep.quiet (h : TStep w base g t w' t' D') (H : TV w base g t D) (hg : base ≤ g) (o : Only [] w0 w) (hb : w0.heap.size ≤ base) : Only [] w0 w' := o.fresh h.only (fun k hk => by
  rcases List.mem_cons.1 hk with h1 | h1
  · exact .inr (by omega)
  · exact .inr (Nat.le_trans hb (Tr.okm_lt H.okm k h1).1))
/-- A new row stands apart from a Table. -/
theorem TV.apart (H : TV w base g t D) (hv : w'.ownsRow w.heap.size e sz v n xs) : ∀ j, v.ownBlock = some j → j ≠ g ∧ j ∉ t.bks := fun j hj => by
  have h1 := (own_lt hv j hj).1
  have h2 := H.ob.lt
  exact ⟨by omega, fun hm => by have := (Tr.okm_lt H.okm j hm).2; omega⟩
end
theorem vld1 : Vld ⟨167772160, 8, 1, 0⟩ := ⟨⟨by decide, by decide⟩, by decide, by decide⟩
theorem vld2 : Vld ⟨167837696, 16, 2, 0⟩ := ⟨⟨by decide, by decide⟩, by decide, by decide⟩
set_option maxRecDepth 100000 in
theorem known1 (w : World) : Calls Try.prog 16 #[] w fun x w' => x = .returned (.bool true) ∧ Only [] w w' := by
  obtain ⟨W0, hW0⟩ : ∃ W0, w.alloc (.cells #[.pointer none, .int .i64 0] 26) = W0 := ⟨_, rfl⟩
  have H0 : Hid (TV W0 w.heap.size w.heap.size .nil []) := hid (by rw [← hW0]; exact TV.new w _)
  have Q0 : Hid (Only [] w W0) := hid (by rw [← hW0]; exact (Only.refl [] w).alloc _)
  go_enter Try.func16, Try.ntmps16
  go_wp2_with fail
  refine (addT W0 w.heap.size w.heap.size .nil [] ⟨167772160, 8, 1, 0⟩ H0.out Q0.out.size ⟨by decide, by decide⟩).mono ?_
  rintro x w1 ⟨e1, D1, t1, rfl, h1, s1⟩
  have Q1 := hid (s1.quiet H0.out (Nat.le_refl _) Q0.out (Nat.le_refl _))
  have H1 := hid s1.tv
  obtain ⟨he1, hD1⟩ : e1 = 0 ∧ D1 = [⟨167772160, 8, 1, 0⟩] := h1.uniq (.inr (.inr (.inr ⟨rfl, vld1, by simp, by simp, List.Perm.refl _, List.pairwise_singleton _ _⟩)))
  subst he1; subst hD1
  clear h1 s1
  go_wp2_with fail
  refine (addT w1 w.heap.size w.heap.size t1 _ ⟨167837696, 16, 2, 0⟩ H1.out Q1.out.size ⟨by decide, by decide⟩).mono ?_
  rintro x w2 ⟨e2, D2, t2, rfl, h2, s2⟩
  have Q2 := hid (s2.quiet H1.out (Nat.le_refl _) Q1.out (Nat.le_refl _))
  have H2 := hid s2.tv
  obtain ⟨he2, hD2⟩ : e2 = 0 ∧ D2 = [⟨167837696, 16, 2, 0⟩, ⟨167772160, 8, 1, 0⟩] := h2.uniq (.inr (.inr (.inr ⟨rfl, vld2, by simp [Key], by simp, List.Perm.refl _, List.pairwise_cons.2 ⟨by simp [Ahd], List.pairwise_singleton _ _⟩⟩)))
  subst he2; subst hD2
  clear h2 s2
  go_wp2_with fail
  refine (finT w2 w.heap.size w.heap.size t2 _ 167838211 H2.out ⟨by decide, by decide⟩).mono ?_
  rintro x w3 ⟨⟨v, e, rfl, hf⟩, o3⟩
  have Q3 := hid (Q2.out.trans o3)
  clear o3
  obtain ⟨rfl, rfl⟩ : e = 0 ∧ v = .agg #[.int .u32 167837696, .int .i64 16, .int .u32 2, .int .i64 0] := by
    rcases hf with ⟨_, _, h⟩ | ⟨r, h1, h2, h3, h4, h5⟩
    · exact absurd (by decide : pre 167838211 16 = pre 167837696 16) (h ⟨167837696, 16, 2, 0⟩ (by simp))
    · rcases List.mem_cons.1 h3 with rfl | h3
      · exact ⟨h1, h2⟩
      · obtain rfl : r = ⟨167772160, 8, 1, 0⟩ := by simpa using h3
        exact absurd (.inl (by decide)) (h5 ⟨167837696, 16, 2, 0⟩ (by simp) (by decide : pre 167838211 16 = pre 167837696 16))
  clear hf
  go_wp2_with fail
  go_ret
  exact ⟨rfl, Q3.out.alloc _⟩
end Go.Proofs.Ytoidpakenocllaa.rou
