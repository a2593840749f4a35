/-
  Chapter 10 (igmp): the document's spot and Tick, by a walk of each text. Conditions: none but those typed.
-/
import Derived.Test.YtodcjokafjdhdaaIgJ
namespace Go.Proofs.Ytodcjokafjdhdaa.igm
set_option linter.unusedVariables false
set_option linter.unusedSimpArgs false
open Go.ChangeShapes Go.WideShapes Go.ChangeAt Go.RowKit Go.IntWalk Go.Lib
theorem spotS_eq {S : List Gm} {t : Int} {j : Nat} (hj : j ≤ S.length) (h1 : ∀ a ∈ S.take j, a.g < t) (h2 : ∀ a ∈ S.drop j, ¬ a.g < t) : spotS S t = j := by
  have e : spotS S t = spotS (S.take j ++ S.drop j) t := by rw [List.take_append_drop]
  rw [e]
  unfold spotS
  rw [List.countP_append, List.countP_eq_length.2 (fun a ha => by simpa using h1 a ha), List.countP_eq_zero.2 (fun a ha => by simpa using h2 a ha), List.length_take]
  omega
theorem drws_set {X : List Dm} {m m' : Dm} {R : List Dm} {j : Nat} {u : Value} (hj : j < 4) (h : m.enc.set j u = m'.enc) : (rws Dm.enc (X ++ m :: R)).set (X.length * 4 + j) u = rws Dm.enc (X ++ m' :: R) := by
  have hl : (rws Dm.enc X).length = X.length * 4 := rws_len dnc_len X
  rw [rws_app, rws_app, List.set_append_right _ _ (by omega), hl, Nat.add_sub_cancel_left]
  show _ ++ (m.enc ++ rws Dm.enc R).set j u = _ ++ (m'.enc ++ rws Dm.enc R)
  rw [List.set_append_left _ _ (by rw [dnc_len]; exact hj), h]
section
variable {w w' : World} {B g gb n c k j : Nat} {v u : Value} {D X R : List Dm} {m m' : Dm}
theorem DI.form (h : DI w B g v D) (hD : D ≠ []) : ∃ gb c, v = .slice (some ⟨gb, 0, none⟩) D.length c := by
  rcases h.own.2 with ⟨_, h0⟩ | ⟨p, cap, cur, rfl, _⟩
  · exact absurd (List.eq_nil_of_length_eq_zero h0) hD
  · exact ⟨p, cap, rfl⟩
theorem DI.ne (h : DI w B g (.slice (some ⟨gb, 0, none⟩) n c) D) : g ≠ gb := fun e => ob_own h.ob h.own (by decide) (by rw [e]; rfl)
theorem DI.cells (h : DI w B g (.slice (some ⟨gb, 0, none⟩) n c) (X ++ m :: R)) (hk : X.length = k) : w.cell? ⟨gb, k * 4, none⟩ = some (.int .u32 m.g) ∧ w.cell? ⟨gb, k * 4 + 1, none⟩ = some (.bool m.t) ∧ w.cell? ⟨gb, k * 4 + 2, none⟩ = some (.int .i64 m.at_) ∧ w.cell? ⟨gb, k * 4 + 3, none⟩ = some (.bool m.o) ∧ w.frozen? ⟨gb, k * 4 + 1, none⟩ = false ∧ w.frozen? ⟨gb, k * 4 + 2, none⟩ = false ∧ w.frozen? ⟨gb, k * 4 + 3, none⟩ = false := by
  subst hk
  have hl : X.length < (X ++ m :: R).length := by rw [List.length_append, List.length_cons]; omega
  obtain ⟨_, _, ev, -, -, -, hr, -, -⟩ := RdS.of_own h.own (rws_one dnc_one _)
  injection ev with ev1 ev2 ev3
  rw [← ev1] at hr
  obtain ⟨b, off, e, _, hc⟩ := RdS.elem hr rfl dnc_len (by decide) X.length hl
  injection e with e; injection e with e1 e2
  subst e1; subst e2
  have e3 : (X ++ m :: R)[X.length]'hl = m := by simp
  rw [e3] at hc
  have h0 := hc 0 _ rfl; have h1 := hc 1 _ rfl; have h2 := hc 2 _ rfl; have h3 := hc 3 _ rfl
  rw [Nat.zero_add] at h0 h1 h2 h3
  have hf : ∀ j, w.frozen? ⟨gb, j, none⟩ = false := by
    intro j
    rcases h.own.2 with ⟨h9, _⟩ | ⟨p, cap, cur, h9, _, hh9, _⟩
    · cases h9
    · injection h9 with e1 _ _; injection e1 with e1; injection e1 with e1 _
      subst e1
      exact frozen_of_row w gb j cur 83 hh9
  exact ⟨h0, h1, h2, h3, hf _, hf _, hf _⟩
theorem DI.put (h : DI w B g (.slice (some ⟨gb, 0, none⟩) n c) (X ++ m :: R)) (hk : X.length = k) (hj : j < 4) (hu : m.enc.set j u = m'.enc) : DI (w.setCell ⟨gb, k * 4 + j, none⟩ u) B g (.slice (some ⟨gb, 0, none⟩) n c) (X ++ m' :: R) := by
  refine ⟨h.ob.far (p := ⟨gb, k * 4 + j, none⟩) h.ne _, ?_⟩
  have hn : (X ++ m :: R).length = n := by
    rcases h.own.2 with ⟨h9, _⟩ | ⟨p, cap, cur, h9, _⟩
    · cases h9
    · injection h9 with _ e2 _; exact e2.symm
  have h1 := h.own
  rw [hn] at h1
  have h2 := (World.ownsRow.stored h1 (k * 4 + j) u).1
  rw [← hk, drws_set hj hu, ← hn] at h2
  rw [List.length_append, List.length_cons] at h2 ⊢
  rw [← hk]
  rw [List.length_append, List.length_cons] at hn
  rw [hn] at h2 ⊢
  exact h2
theorem only_put (w : World) (gb o : Nat) (u : Value) : Only [gb] w (w.setCell ⟨gb, o, none⟩ u) := (Only.refl [gb] w).setCell (p := ⟨gb, o, none⟩) (Or.inl (by simp)) _
end
def SpD (S : List Gm) (t : Int) (w : World) (x : Ending) (w' : World) : Prop := x = .returned (.tuple #[.int .i64 (spotS S t : Nat), .bool (hasS S t)]) ∧ Only [] w w'
theorem hasS_at {S : List Gm} {t : Int} {j : Nat} (h : spotS S t = j) (hj : j < S.length) : hasS S t = decide ((S[j]).g = t) := by
  unfold hasS; rw [h, List.getElem?_eq_getElem hj]
theorem hasS_end {S : List Gm} {t : Int} {j : Nat} (h : spotS S t = j) (hj : S.length ≤ j) : hasS S t = false := by
  unfold hasS; rw [h, List.getElem?_eq_none hj]
theorem spot_at {D : List Dm} {t : Int} {j : Nat} (hR : RiseS (D.map Dm.ab)) (hj : j ≤ D.length) (h1 : ∀ k (hk : k < D.length), k < j → (D[k]).g < t) (h2 : ∀ (hk : j < D.length), ¬ (D[j]).g < t) : spotS (D.map Dm.ab) t = j := by
  refine spotS_eq (by simpa using hj) (fun a ha => ?_) (fun a ha => ?_)
  · obtain ⟨i, hi, rfl⟩ := List.getElem_of_mem ha
    rw [List.length_take, List.length_map] at hi
    rw [List.getElem_take, List.getElem_map]
    exact h1 i (by omega) (by omega)
  · obtain ⟨i, hi, rfl⟩ := List.getElem_of_mem ha
    rw [List.length_drop, List.length_map] at hi
    rw [List.getElem_drop, List.getElem_map]
    have h3 := h2 (by omega)
    show ¬ (D[j + i]).g < t
    rcases Nat.eq_zero_or_pos i with rfl | hi0
    · exact h3
    · have h4 := List.pairwise_iff_getElem.1 hR j (j + i) (by rw [List.length_map]; omega) (by rw [List.length_map]; omega) (by omega)
      rw [List.getElem_map, List.getElem_map] at h4
      have h5 : (D[j]).g < (D[j + i]).g := h4
      omega
set_option maxRecDepth 100000 in
set_option maxHeartbeats 4000000 in
theorem spotD (w : World) (B g : Nat) (v : Value) (D : List Dm) (t : Int) (h : DI w B g v D) (hR : RiseS (D.map Dm.ab)) (hb : D.length ≤ 16) :
    Calls Try.prog 54 #[.pointer (some ⟨g, 0, none⟩), .int .u32 t] w (SpD (D.map Dm.ab) t w) := by
  obtain ⟨A, c, rfl, -, -, -, hr, -, -⟩ := RdS.of_own h.own (rws_one dnc_one _)
  obtain ⟨n, hn⟩ : ∃ n, D.length = n := ⟨_, rfl⟩
  have HN := hid hn
  have HO := hid h.ob; have HRi := hid hR
  rw [hn] at hr hb HO
  have HR := hid hr
  clear h hr hn hR
  go_enter Try.func54, Try.ntmps54
  go_wp2_with fail
  go_loopw [6] (fun i wr => ∃ (j : Nat), i = .int .i64 j ∧ j ≤ n ∧ Hid (∀ k (hk : k < D.length), k < j → (D[k]).g < t) ∧ Hid (Only [] w wr)) (fun i _ => n - (RowKit.intOf i).toNat)
  case atStart => exact ⟨0, rfl, by omega, hid (fun k hk h => absurd h (by omega)), hid (Only.refl _ _)⟩
  case round =>
    obtain ⟨j, rfl, hj, HB, HQ⟩ := hrel
    have k0 := (HO.out.only HQ.out (by simp)).cell 0
    have HOr := hid (HO.out.only HQ.out (by simp))
    by_cases hjn : j < n
    · have hjl : j < D.length := by rw [HN.out]; exact hjn
      obtain ⟨b, off, rfl, -, hc1⟩ := (HR.out.only_nil HQ.out).elem HN.out dnc_len (by omega) j hjl
      obtain ⟨y, hy⟩ : ∃ y, D[j] = y := ⟨_, rfl⟩
      have HY := hid hy; have HJL := hid hjl
      replace hc1 : ∀ (i : Nat) (u : Value), y.enc[i]? = some u → wr.cell? ⟨b, off + j * 4 + i, none⟩ = some u := by subst hy; exact hc1
      obtain ⟨tg, yt, ya, yo⟩ := y
      have d0 : wr.cell? ⟨b, off + j * 4, none⟩ = some (.int .u32 tg) := by have := hc1 0 _ rfl; rwa [Nat.add_zero] at this
      have HD0 := hid d0
      clear hc1 hy
      by_cases hlt : tg < t
      · have HB2 : Hid (∀ k (hk : k < D.length), k < j + 1 → (D[k]).g < t) := hid (fun k hk h9 => by
          rcases Nat.lt_or_ge k j with h8 | h8
          · exact HB.out k hk h8
          · obtain rfl : k = j := by omega
            rw [HY.out]; exact hlt)
        go_wp2_with fail
        go_roundw
        case rel => exact ⟨j + 1, by first | rfl | go_num, by omega, HB2, HQ⟩
        case measure => simp [RowKit.intOf]; omega
      · have HS : Hid (spotS (D.map Dm.ab) t = j) := hid (spot_at HRi.out (by rw [HN.out]; omega) HB.out (fun hk => by rw [HY.out]; exact hlt))
        by_cases he : tg = t
        · have HH : Hid (hasS (D.map Dm.ab) t = true) := hid (by
            rw [hasS_at HS.out (by rw [List.length_map]; exact hjl), List.getElem_map, HY.out]
            exact decide_eq_true he)
          have z : (tg == t) = true := by simpa using he
          clear he
          go_wp2_with fail
          refine wp_region_noPanic ?_
          refine rgn.regionT (R := Only []) (by kernel_rfl) (Only.refl []) (fun _ _ _ => Only.trans) (fun _ _ _ _ _ h => h) (.y 0 (.y 1 (.y 2 (.y 3 (.y 4 (.y 5 (.y 6 (.y 7 (.y 8 (.y 9 (.y 10 (.y 11 (.y 12 (.y 13 (.y 14 (.y 15 (.y 16 (.y 17 (.y 18 (.y 19 (.e 20 (.e 21 .z)))))))))))))))))))))) (by kernel_rfl) (fun W hWd => ?_)
          have HWd := hid hWd; clear hWd
          have q8 : Only [] wr W := Only.eq_drew (Only.refl [] _) HWd.out
          have HOW := hid (HOr.out.only q8 (by simp))
          have QW := hid (HQ.out.trans q8)
          have HD9 := hid (q8.keep HD0.out)
          clear q8 HWd
          refine rgn.Walk.ys (v := ?_) rfl rfl rfl ?_ ?_
          rotate_left 1
          · intro W' hW'
            go_simp
            try with_reducible rfl
          try simp only [Act.put, List.setIfInBounds_toArray, List.set_cons_zero, List.set_cons_succ]
          refine rgn.Walk.ys (v := ?_) rfl rfl rfl ?_ ?_
          rotate_left 1
          · intro W' hW'
            go_simp
            try with_reducible rfl
          try simp only [Act.put, List.setIfInBounds_toArray, List.set_cons_zero, List.set_cons_succ]
          refine rgn.Walk.ys (v := ?_) rfl rfl rfl ?_ ?_
          rotate_left 1
          · intro W' hW'
            go_simp
            try with_reducible rfl
          try simp only [Act.put, List.setIfInBounds_toArray, List.set_cons_zero, List.set_cons_succ]
          refine rgn.Walk.ys (v := ?_) rfl rfl rfl ?_ ?_
          rotate_left 1
          · intro W' hW'
            go_simp
            try with_reducible rfl
          try simp only [Act.put, List.setIfInBounds_toArray, List.set_cons_zero, List.set_cons_succ]
          refine rgn.Walk.ys (v := ?_) rfl rfl rfl ?_ ?_
          rotate_left 1
          · intro W' hW'
            go_simp
            try with_reducible rfl
          try simp only [Act.put, List.setIfInBounds_toArray, List.set_cons_zero, List.set_cons_succ]
          refine rgn.Walk.ys (v := ?_) rfl rfl rfl ?_ ?_
          rotate_left 1
          · intro W' hW'
            have q0 := (HOW.out.only hW' (by simp)).cell 0
            go_simp
            try with_reducible rfl
          try simp only [Act.put, List.setIfInBounds_toArray, List.set_cons_zero, List.set_cons_succ]
          refine rgn.Walk.ys (v := ?_) rfl rfl rfl ?_ ?_
          rotate_left 1
          · intro W' hW'
            go_simp
            try with_reducible rfl
          try simp only [Act.put, List.setIfInBounds_toArray, List.set_cons_zero, List.set_cons_succ]
          refine rgn.Walk.ys (v := ?_) rfl rfl rfl ?_ ?_
          rotate_left 1
          · intro W' hW'
            go_simp
            try with_reducible rfl
          try simp only [Act.put, List.setIfInBounds_toArray, List.set_cons_zero, List.set_cons_succ]
          refine rgn.Walk.ys (v := ?_) rfl rfl rfl ?_ ?_
          rotate_left 1
          · intro W' hW'
            go_simp
            try with_reducible rfl
          try simp only [Act.put, List.setIfInBounds_toArray, List.set_cons_zero, List.set_cons_succ]
          refine rgn.Walk.ys (v := ?_) rfl rfl rfl ?_ ?_
          rotate_left 1
          · intro W' hW'
            go_simp
            try with_reducible rfl
          try simp only [Act.put, List.setIfInBounds_toArray, List.set_cons_zero, List.set_cons_succ]
          refine rgn.Walk.ys (v := ?_) rfl rfl rfl ?_ ?_
          rotate_left 1
          · intro W' hW'
            go_simp
            try with_reducible rfl
          try simp only [Act.put, List.setIfInBounds_toArray, List.set_cons_zero, List.set_cons_succ]
          refine rgn.Walk.ys (v := ?_) rfl rfl rfl ?_ ?_
          rotate_left 1
          · intro W' hW'
            go_simp
            try with_reducible rfl
          try simp only [Act.put, List.setIfInBounds_toArray, List.set_cons_zero, List.set_cons_succ]
          refine rgn.Walk.ys (v := ?_) rfl rfl rfl ?_ ?_
          rotate_left 1
          · intro W' hW'
            have q0 := (HOW.out.only hW' (by simp)).cell 0
            go_simp
            try with_reducible rfl
          try simp only [Act.put, List.setIfInBounds_toArray, List.set_cons_zero, List.set_cons_succ]
          refine rgn.Walk.ys (v := ?_) rfl rfl rfl ?_ ?_
          rotate_left 1
          · intro W' hW'
            go_simp
            try with_reducible rfl
          try simp only [Act.put, List.setIfInBounds_toArray, List.set_cons_zero, List.set_cons_succ]
          refine rgn.Walk.ys (v := ?_) rfl rfl rfl ?_ ?_
          rotate_left 1
          · intro W' hW'
            go_simp
            try with_reducible rfl
          try simp only [Act.put, List.setIfInBounds_toArray, List.set_cons_zero, List.set_cons_succ]
          refine rgn.Walk.ys (v := ?_) rfl rfl rfl ?_ ?_
          rotate_left 1
          · intro W' hW'
            go_simp
            try with_reducible rfl
          try simp only [Act.put, List.setIfInBounds_toArray, List.set_cons_zero, List.set_cons_succ]
          refine rgn.Walk.ys (v := ?_) rfl rfl rfl ?_ ?_
          rotate_left 1
          · intro W' hW'
            have q0 := hW'.keep HD9.out
            go_simp
            try with_reducible rfl
          try simp only [Act.put, List.setIfInBounds_toArray, List.set_cons_zero, List.set_cons_succ]
          refine rgn.Walk.ys (v := ?_) rfl rfl rfl ?_ ?_
          rotate_left 1
          · intro W' hW'
            go_simp
            try with_reducible rfl
          try simp only [Act.put, List.setIfInBounds_toArray, List.set_cons_zero, List.set_cons_succ]
          refine rgn.Walk.ys (v := ?_) rfl rfl rfl ?_ ?_
          rotate_left 1
          · intro W' hW'
            go_simp
            try with_reducible rfl
          try simp only [Act.put, List.setIfInBounds_toArray, List.set_cons_zero, List.set_cons_succ]
          refine rgn.Walk.ys (v := ?_) rfl rfl rfl ?_ ?_
          rotate_left 1
          · intro W' hW'
            go_simp
            try with_reducible rfl
          try simp only [Act.put, List.setIfInBounds_toArray, List.set_cons_zero, List.set_cons_succ]
          refine rgn.Walk.es ?_
          refine rgn.stepE rfl rfl (fun K hK => ?_)
          go_simp
          refine hK _ _ ((Only.refl []) _) ?_
          clear hK K
          try simp only [Act.put, List.setIfInBounds_toArray, List.set_cons_zero, List.set_cons_succ]
          refine rgn.Walk.es ?_
          refine rgn.stepE rfl rfl (fun K hK => ?_)
          go_simp
          refine hK _ _ ((Only.refl []) _) ?_
          clear hK K
          try simp only [Act.put, List.setIfInBounds_toArray, List.set_cons_zero, List.set_cons_succ]
          refine rgn.Walk.zs (NoPanic.normal ?_)
          go_wp2_with fail
          go_ret2
          refine ⟨?_, QW.out⟩
          rw [HS.out, HH.out]
          rfl
        · have HH : Hid (hasS (D.map Dm.ab) t = false) := hid (by
            rw [hasS_at HS.out (by rw [List.length_map]; exact hjl), List.getElem_map, HY.out]
            exact decide_eq_false he)
          have z : (tg == t) = false := by simpa using he
          clear he
          go_wp2_with fail
          refine wp_region_noPanic ?_
          refine rgn.regionT (R := Only []) (by kernel_rfl) (Only.refl []) (fun _ _ _ => Only.trans) (fun _ _ _ _ _ h => h) (.y 0 (.y 1 (.y 2 (.y 3 (.y 4 (.y 5 (.y 6 (.y 7 (.y 8 (.y 9 (.y 10 (.y 11 (.y 12 (.y 13 (.y 14 (.y 15 (.y 16 (.y 17 (.y 18 (.y 19 (.e 20 (.e 21 .z)))))))))))))))))))))) (by kernel_rfl) (fun W hWd => ?_)
          have HWd := hid hWd; clear hWd
          have q8 : Only [] wr W := Only.eq_drew (Only.refl [] _) HWd.out
          have HOW := hid (HOr.out.only q8 (by simp))
          have QW := hid (HQ.out.trans q8)
          have HD9 := hid (q8.keep HD0.out)
          clear q8 HWd
          refine rgn.Walk.ys (v := ?_) rfl rfl rfl ?_ ?_
          rotate_left 1
          · intro W' hW'
            go_simp
            try with_reducible rfl
          try simp only [Act.put, List.setIfInBounds_toArray, List.set_cons_zero, List.set_cons_succ]
          refine rgn.Walk.ys (v := ?_) rfl rfl rfl ?_ ?_
          rotate_left 1
          · intro W' hW'
            go_simp
            try with_reducible rfl
          try simp only [Act.put, List.setIfInBounds_toArray, List.set_cons_zero, List.set_cons_succ]
          refine rgn.Walk.ys (v := ?_) rfl rfl rfl ?_ ?_
          rotate_left 1
          · intro W' hW'
            go_simp
            try with_reducible rfl
          try simp only [Act.put, List.setIfInBounds_toArray, List.set_cons_zero, List.set_cons_succ]
          refine rgn.Walk.ys (v := ?_) rfl rfl rfl ?_ ?_
          rotate_left 1
          · intro W' hW'
            go_simp
            try with_reducible rfl
          try simp only [Act.put, List.setIfInBounds_toArray, List.set_cons_zero, List.set_cons_succ]
          refine rgn.Walk.ys (v := ?_) rfl rfl rfl ?_ ?_
          rotate_left 1
          · intro W' hW'
            go_simp
            try with_reducible rfl
          try simp only [Act.put, List.setIfInBounds_toArray, List.set_cons_zero, List.set_cons_succ]
          refine rgn.Walk.ys (v := ?_) rfl rfl rfl ?_ ?_
          rotate_left 1
          · intro W' hW'
            have q0 := (HOW.out.only hW' (by simp)).cell 0
            go_simp
            try with_reducible rfl
          try simp only [Act.put, List.setIfInBounds_toArray, List.set_cons_zero, List.set_cons_succ]
          refine rgn.Walk.ys (v := ?_) rfl rfl rfl ?_ ?_
          rotate_left 1
          · intro W' hW'
            go_simp
            try with_reducible rfl
          try simp only [Act.put, List.setIfInBounds_toArray, List.set_cons_zero, List.set_cons_succ]
          refine rgn.Walk.ys (v := ?_) rfl rfl rfl ?_ ?_
          rotate_left 1
          · intro W' hW'
            go_simp
            try with_reducible rfl
          try simp only [Act.put, List.setIfInBounds_toArray, List.set_cons_zero, List.set_cons_succ]
          refine rgn.Walk.ys (v := ?_) rfl rfl rfl ?_ ?_
          rotate_left 1
          · intro W' hW'
            go_simp
            try with_reducible rfl
          try simp only [Act.put, List.setIfInBounds_toArray, List.set_cons_zero, List.set_cons_succ]
          refine rgn.Walk.ys (v := ?_) rfl rfl rfl ?_ ?_
          rotate_left 1
          · intro W' hW'
            go_simp
            try with_reducible rfl
          try simp only [Act.put, List.setIfInBounds_toArray, List.set_cons_zero, List.set_cons_succ]
          refine rgn.Walk.ys (v := ?_) rfl rfl rfl ?_ ?_
          rotate_left 1
          · intro W' hW'
            go_simp
            try with_reducible rfl
          try simp only [Act.put, List.setIfInBounds_toArray, List.set_cons_zero, List.set_cons_succ]
          refine rgn.Walk.ys (v := ?_) rfl rfl rfl ?_ ?_
          rotate_left 1
          · intro W' hW'
            go_simp
            try with_reducible rfl
          try simp only [Act.put, List.setIfInBounds_toArray, List.set_cons_zero, List.set_cons_succ]
          refine rgn.Walk.ys (v := ?_) rfl rfl rfl ?_ ?_
          rotate_left 1
          · intro W' hW'
            have q0 := (HOW.out.only hW' (by simp)).cell 0
            go_simp
            try with_reducible rfl
          try simp only [Act.put, List.setIfInBounds_toArray, List.set_cons_zero, List.set_cons_succ]
          refine rgn.Walk.ys (v := ?_) rfl rfl rfl ?_ ?_
          rotate_left 1
          · intro W' hW'
            go_simp
            try with_reducible rfl
          try simp only [Act.put, List.setIfInBounds_toArray, List.set_cons_zero, List.set_cons_succ]
          refine rgn.Walk.ys (v := ?_) rfl rfl rfl ?_ ?_
          rotate_left 1
          · intro W' hW'
            go_simp
            try with_reducible rfl
          try simp only [Act.put, List.setIfInBounds_toArray, List.set_cons_zero, List.set_cons_succ]
          refine rgn.Walk.ys (v := ?_) rfl rfl rfl ?_ ?_
          rotate_left 1
          · intro W' hW'
            go_simp
            try with_reducible rfl
          try simp only [Act.put, List.setIfInBounds_toArray, List.set_cons_zero, List.set_cons_succ]
          refine rgn.Walk.ys (v := ?_) rfl rfl rfl ?_ ?_
          rotate_left 1
          · intro W' hW'
            have q0 := hW'.keep HD9.out
            go_simp
            try with_reducible rfl
          try simp only [Act.put, List.setIfInBounds_toArray, List.set_cons_zero, List.set_cons_succ]
          refine rgn.Walk.ys (v := ?_) rfl rfl rfl ?_ ?_
          rotate_left 1
          · intro W' hW'
            go_simp
            try with_reducible rfl
          try simp only [Act.put, List.setIfInBounds_toArray, List.set_cons_zero, List.set_cons_succ]
          refine rgn.Walk.ys (v := ?_) rfl rfl rfl ?_ ?_
          rotate_left 1
          · intro W' hW'
            go_simp
            try with_reducible rfl
          try simp only [Act.put, List.setIfInBounds_toArray, List.set_cons_zero, List.set_cons_succ]
          refine rgn.Walk.ys (v := ?_) rfl rfl rfl ?_ ?_
          rotate_left 1
          · intro W' hW'
            go_simp
            try with_reducible rfl
          try simp only [Act.put, List.setIfInBounds_toArray, List.set_cons_zero, List.set_cons_succ]
          refine rgn.Walk.es ?_
          refine rgn.stepE rfl rfl (fun K hK => ?_)
          go_simp
          refine hK _ _ ((Only.refl []) _) ?_
          clear hK K
          try simp only [Act.put, List.setIfInBounds_toArray, List.set_cons_zero, List.set_cons_succ]
          refine rgn.Walk.es ?_
          refine rgn.stepE rfl rfl (fun K hK => ?_)
          go_simp
          refine hK _ _ ((Only.refl []) _) ?_
          clear hK K
          try simp only [Act.put, List.setIfInBounds_toArray, List.set_cons_zero, List.set_cons_succ]
          refine rgn.Walk.zs (NoPanic.normal ?_)
          go_wp2_with fail
          go_ret2
          refine ⟨?_, QW.out⟩
          rw [HS.out, HH.out]
          rfl
    · obtain rfl : j = n := by omega
      have HS : Hid (spotS (D.map Dm.ab) t = j) := hid (spot_at HRi.out (by rw [HN.out]; exact Nat.le_refl _) HB.out (fun hk => by exfalso; rw [HN.out] at hk; omega))
      have HH : Hid (hasS (D.map Dm.ab) t = false) := hid (hasS_end HS.out (by rw [List.length_map, HN.out]; exact Nat.le_refl _))
      go_wp2_with fail
      refine wp_region_noPanic ?_
      refine rgn.regionT (R := Only []) (by kernel_rfl) (Only.refl []) (fun _ _ _ => Only.trans) (fun _ _ _ _ _ h => h) (.y 0 (.y 1 (.y 2 (.y 3 (.y 4 (.y 5 (.y 6 (.y 7 (.y 8 (.y 9 (.y 10 (.y 11 (.y 12 (.y 13 (.y 14 (.y 15 (.y 16 (.y 17 (.y 18 (.y 19 (.e 20 (.e 21 .z)))))))))))))))))))))) (by kernel_rfl) (fun W hWd => ?_)
      have HWd := hid hWd; clear hWd
      have q8 : Only [] wr W := Only.eq_drew (Only.refl [] _) HWd.out
      have HOW := hid (HOr.out.only q8 (by simp))
      have QW := hid (HQ.out.trans q8)
      clear q8 HWd
      refine rgn.Walk.ys (v := ?_) rfl rfl rfl ?_ ?_
      rotate_left 1
      · intro W' hW'
        go_simp
        try with_reducible rfl
      try simp only [Act.put, List.setIfInBounds_toArray, List.set_cons_zero, List.set_cons_succ]
      refine rgn.Walk.ys (v := ?_) rfl rfl rfl ?_ ?_
      rotate_left 1
      · intro W' hW'
        go_simp
        try with_reducible rfl
      try simp only [Act.put, List.setIfInBounds_toArray, List.set_cons_zero, List.set_cons_succ]
      refine rgn.Walk.ys (v := ?_) rfl rfl rfl ?_ ?_
      rotate_left 1
      · intro W' hW'
        go_simp
        try with_reducible rfl
      try simp only [Act.put, List.setIfInBounds_toArray, List.set_cons_zero, List.set_cons_succ]
      refine rgn.Walk.ys (v := ?_) rfl rfl rfl ?_ ?_
      rotate_left 1
      · intro W' hW'
        go_simp
        try with_reducible rfl
      try simp only [Act.put, List.setIfInBounds_toArray, List.set_cons_zero, List.set_cons_succ]
      refine rgn.Walk.ys (v := ?_) rfl rfl rfl ?_ ?_
      rotate_left 1
      · intro W' hW'
        go_simp
        try with_reducible rfl
      try simp only [Act.put, List.setIfInBounds_toArray, List.set_cons_zero, List.set_cons_succ]
      refine rgn.Walk.ys (v := ?_) rfl rfl rfl ?_ ?_
      rotate_left 1
      · intro W' hW'
        have q0 := (HOW.out.only hW' (by simp)).cell 0
        go_simp
        try with_reducible rfl
      try simp only [Act.put, List.setIfInBounds_toArray, List.set_cons_zero, List.set_cons_succ]
      refine rgn.Walk.ys (v := ?_) rfl rfl rfl ?_ ?_
      rotate_left 1
      · intro W' hW'
        go_simp
        try with_reducible rfl
      try simp only [Act.put, List.setIfInBounds_toArray, List.set_cons_zero, List.set_cons_succ]
      refine rgn.Walk.ys (v := ?_) rfl rfl rfl ?_ ?_
      rotate_left 1
      · intro W' hW'
        go_simp
        try with_reducible rfl
      try simp only [Act.put, List.setIfInBounds_toArray, List.set_cons_zero, List.set_cons_succ]
      refine rgn.Walk.ys (v := ?_) rfl rfl rfl ?_ ?_
      rotate_left 1
      · intro W' hW'
        go_simp
        try with_reducible rfl
      try simp only [Act.put, List.setIfInBounds_toArray, List.set_cons_zero, List.set_cons_succ]
      refine rgn.Walk.yn rfl rfl rfl ?_
      try simp only [Act.put, List.setIfInBounds_toArray, List.set_cons_zero, List.set_cons_succ]
      refine rgn.Walk.yn rfl rfl rfl ?_
      try simp only [Act.put, List.setIfInBounds_toArray, List.set_cons_zero, List.set_cons_succ]
      refine rgn.Walk.yn rfl rfl rfl ?_
      try simp only [Act.put, List.setIfInBounds_toArray, List.set_cons_zero, List.set_cons_succ]
      refine rgn.Walk.yn rfl rfl rfl ?_
      try simp only [Act.put, List.setIfInBounds_toArray, List.set_cons_zero, List.set_cons_succ]
      refine rgn.Walk.yn rfl rfl rfl ?_
      try simp only [Act.put, List.setIfInBounds_toArray, List.set_cons_zero, List.set_cons_succ]
      refine rgn.Walk.yn rfl rfl rfl ?_
      try simp only [Act.put, List.setIfInBounds_toArray, List.set_cons_zero, List.set_cons_succ]
      refine rgn.Walk.yn rfl rfl rfl ?_
      try simp only [Act.put, List.setIfInBounds_toArray, List.set_cons_zero, List.set_cons_succ]
      refine rgn.Walk.yn rfl rfl rfl ?_
      try simp only [Act.put, List.setIfInBounds_toArray, List.set_cons_zero, List.set_cons_succ]
      refine rgn.Walk.yn rfl rfl rfl ?_
      try simp only [Act.put, List.setIfInBounds_toArray, List.set_cons_zero, List.set_cons_succ]
      refine rgn.Walk.yn rfl rfl rfl ?_
      try simp only [Act.put, List.setIfInBounds_toArray, List.set_cons_zero, List.set_cons_succ]
      refine rgn.Walk.ys (v := ?_) rfl rfl rfl ?_ ?_
      rotate_left 1
      · intro W' hW'
        go_simp
        try with_reducible rfl
      try simp only [Act.put, List.setIfInBounds_toArray, List.set_cons_zero, List.set_cons_succ]
      refine rgn.Walk.es ?_
      refine rgn.stepE rfl rfl (fun K hK => ?_)
      go_simp
      refine hK _ _ ((Only.refl []) _) ?_
      clear hK K
      try simp only [Act.put, List.setIfInBounds_toArray, List.set_cons_zero, List.set_cons_succ]
      refine rgn.Walk.es ?_
      refine rgn.stepE rfl rfl (fun K hK => ?_)
      go_simp
      refine hK _ _ ((Only.refl []) _) ?_
      clear hK K
      try simp only [Act.put, List.setIfInBounds_toArray, List.set_cons_zero, List.set_cons_succ]
      refine rgn.Walk.zs (NoPanic.normal ?_)
      go_wp2_with fail
      go_ret2
      refine ⟨?_, QW.out⟩
      rw [HS.out, HH.out]
      rfl
def Dm.fires (now : Int) (m : Dm) : Bool := m.t && decide (m.at_ ≤ now)
def Dm.tk (now : Int) (m : Dm) : Dm := if m.fires now then ⟨m.g, false, m.at_, true⟩ else m
theorem dfires_ab (now : Int) (m : Dm) : m.ab.fires now = m.fires now := by
  obtain ⟨g, t, a, o⟩ := m
  cases t <;> simp [Dm.ab, Gm.fires, Dm.fires]
theorem dtk_ab (now : Int) (m : Dm) : (m.tk now).ab = m.ab.tk now := by
  unfold Dm.tk Gm.tk
  rw [dfires_ab]
  split <;> rfl
theorem dtick_ab (now : Int) (D : List Dm) : (D.map (Dm.tk now)).map Dm.ab = tickS now (D.map Dm.ab) := by
  unfold tickS
  rw [List.map_map, List.map_map]
  apply List.map_congr_left
  intro m _
  exact dtk_ab now m
theorem drpt_yes {now : Int} {P : List Dm} {m : Dm} (h : m.fires now = true) : rptS now ((P ++ [m]).map Dm.ab) = rptS now (P.map Dm.ab) ++ [m.g] := by
  unfold rptS
  rw [List.map_append, List.filter_append, List.map_append]
  have : (m.ab).fires now = true := by rw [dfires_ab]; exact h
  simp [this]; rfl
theorem drpt_no {now : Int} {P : List Dm} {m : Dm} (h : m.fires now = false) : rptS now ((P ++ [m]).map Dm.ab) = rptS now (P.map Dm.ab) := by
  unfold rptS
  rw [List.map_append, List.filter_append, List.map_append]
  have : (m.ab).fires now = false := by rw [dfires_ab]; exact h
  simp [this]
def TickDE (B g : Nat) (v : Value) (D : List Dm) (now : Int) (w : World) (x : Ending) (w' : World) : Prop :=
  ∃ v', x = .returned v' ∧ w'.ownsRow w.heap.size 25 3 v' (rptS now (D.map Dm.ab)).length (rws ign (rptS now (D.map Dm.ab))) ∧ DI w' B g v (D.map (Dm.tk now)) ∧ Only v.ownBlock.toList w w'
set_option maxRecDepth 100000 in
set_option maxHeartbeats 4000000 in
theorem tickD (w : World) (B g : Nat) (v : Value) (D : List Dm) (now : Int) (h : DI w B g v D) (hb : D.length ≤ 16) :
    Calls Try.prog 39 #[.pointer (some ⟨g, 0, none⟩), .int .i64 now] w (TickDE B g v D now w) := by
  obtain ⟨A, c, ev, -, -, -, -, -, hfa⟩ := RdS.of_own h.own (rws_one dnc_one _)
  subst ev
  obtain ⟨n, hn⟩ : ∃ n, D.length = n := ⟨_, rfl⟩
  have HNm := hid hn
  rw [hn] at h hb ⊢
  have HD0 := hid h
  clear h hfa hn
  go_enter Try.func39, Try.ntmps39
  go_wp2_with fail
  go_loopw [6, 5] (fun i vo wr => ∃ (k : Nat) (P R : List Dm) (u : Value), u = vo ∧ i = .int .i64 k ∧ Hid (D = P ++ R) ∧ Hid (P.length = k) ∧ k ≤ n ∧ Hid (DI wr B g (.slice A n c) (P.map (Dm.tk now) ++ R)) ∧ Hid (wr.ownsRow w.heap.size 25 3 u (rptS now (P.map Dm.ab)).length (rws ign (rptS now (P.map Dm.ab)))) ∧ Hid (Only (Value.slice A n c).ownBlock.toList w wr)) (fun i _ _ => n - (RowKit.intOf i).toNat)
  case atStart => exact ⟨0, [], D, _, rfl, rfl, hid rfl, hid rfl, by omega, HD0, hid (World.ownsRow_nil _ _ _ _), hid (Only.refl _ _)⟩
  case round =>
    obtain ⟨k, P, R, u, rfl, rfl, HM, HP, hk, HD, HU, HQ⟩ := hrel
    have k0 := HD.out.ob.cell 0
    rcases R with _ | ⟨m, R⟩
    · have hkn : k = n := by have := congrArg List.length HM.out; rw [List.append_nil] at this; rw [← HNm.out, ← HP.out, this]
      subst hkn
      have hPM : P = D := by rw [HM.out, List.append_nil]
      subst hPM
      go_wp2_with fail
      go_ret
      refine ⟨u, rfl, HU.out, ?_, HQ.out⟩
      have h9 := HD.out
      rw [List.append_nil] at h9
      exact h9
    · have hlt : k < n := by
        have := congrArg List.length HM.out
        rw [List.length_append, List.length_cons] at this
        rw [← HNm.out, ← HP.out, this]; omega
      have HX : Hid ((P.map (Dm.tk now)).length = k) := hid (by rw [List.length_map]; exact HP.out)
      obtain ⟨gb, rfl⟩ : ∃ gb, A = some ⟨gb, 0, none⟩ := by
        obtain ⟨gb, c', e⟩ := HD.out.form (by simp)
        injection e with e _ _
        exact ⟨gb, e⟩
      obtain ⟨c0, c1, c2, c3, f1, f2, f3⟩ := HD.out.cells HX.out
      obtain ⟨tg, p, a, l⟩ := m
      have HM1 : Hid (D = (P ++ [⟨tg, p, a, l⟩]) ++ R) := hid (by rw [HM.out]; simp)
      have HP1 : Hid ((P ++ [(⟨tg, p, a, l⟩ : Dm)]).length = k + 1) := hid (by rw [List.length_append, HP.out]; rfl)
      by_cases hfi : p = true ∧ a ≤ now
      · obtain ⟨rfl, hz⟩ := hfi
        have hf : Dm.fires now ⟨tg, true, a, l⟩ = true := by unfold Dm.fires; simpa using hz
        have ht : Dm.tk now ⟨tg, true, a, l⟩ = ⟨tg, false, a, true⟩ := by unfold Dm.tk; rw [hf]; rfl
        obtain ⟨W1, hW1⟩ : ∃ x, wr.setCell ⟨gb, k * 4 + 1, none⟩ (.bool false) = x := ⟨_, rfl⟩
        obtain ⟨W2, hW2⟩ : ∃ x, W1.setCell ⟨gb, k * 4 + 3, none⟩ (.bool true) = x := ⟨_, rfl⟩
        have D1 : Hid (DI W1 B g (.slice (some ⟨gb, 0, none⟩) n c) (P.map (Dm.tk now) ++ (⟨tg, false, a, l⟩ : Dm) :: R)) := hid (by rw [← hW1]; exact HD.out.put HX.out (by decide) rfl)
        have D2 : Hid (DI W2 B g (.slice (some ⟨gb, 0, none⟩) n c) (P.map (Dm.tk now) ++ (⟨tg, false, a, true⟩ : Dm) :: R)) := hid (by rw [← hW2]; exact D1.out.put HX.out (by decide) rfl)
        have k1 := D1.out.ob.cell 0; have k2 := D2.out.ob.cell 0
        obtain ⟨_, e1, _, e3, _, _, g3⟩ := D1.out.cells HX.out
        obtain ⟨s0, _, _, _, _, _, _⟩ := D2.out.cells HX.out
        replace c0 : wr.cell? ⟨gb, k * 4, none⟩ = some (.int .u32 tg) := c0
        replace s0 : W2.cell? ⟨gb, k * 4, none⟩ = some (.int .u32 tg) := s0
        have hgw : gb < w.heap.size := (own_lt HD0.out.own gb rfl).2
        have oS : Only [gb] wr W2 := by
          rw [← hW2]
          have h1 : Only [gb] wr W1 := by rw [← hW1]; exact only_put _ _ _ _
          exact h1.trans (only_put _ _ _ _)
        have HQS : Hid (Only [gb] w W2) := hid (HQ.out.trans oS)
        have HUS : Hid (W2.ownsRow w.heap.size 25 3 u (rptS now (P.map Dm.ab)).length (rws ign (rptS now (P.map Dm.ab)))) := hid (own_only HU.out oS (fun j hj hm => by
          have h1 := (own_lt HU.out j hj).1
          have : j = gb := by simpa using hm
          omega))
        clear oS
        have q7 : Only [] W2 (W2.alloc (.cells #[.int .i64 22, .int .i64 0, .int .u32 tg] 25)) := (Only.refl [] W2).alloc _
        have HUA := hid (own_only_nil HUS.out q7)
        have HDA := hid (D2.out.nil q7)
        have HOne := hid (rdS_ign W2 tg)
        have HPl : Hid ((rptS now (P.map Dm.ab)).length ≤ 16) := hid (Nat.le_trans (rpt_len now _) (by rw [List.length_map, HP.out]; omega))
        have hpl := HPl.out
        have hsz : w.heap.size ≤ (W2.alloc (.cells #[.int .i64 22, .int .i64 0, .int .u32 tg] 25)).heap.size := Nat.le_trans HQS.out.size q7.size
        have HF := hid hf; have HT := hid ht
        clear hf ht q7
        go_wp2_with (at_builtin; refine wpList_appS _ rfl (.tmp 50) (.tmp 60) _ rfl elemG w.heap.size u (rptS now (P.map Dm.ab)).length (rws ign (rptS now (P.map Dm.ab))) rfl HUA.out (some ⟨W2.heap.size, 0, none⟩) 1 1 (ign tg) rfl HOne.out (by intro e; cases e) (.inr ⟨_, _, rfl⟩) (by omega) (by unfold maxLen; omega) hsz ?_)
        intro v7 w7 hv7 hg7 hb7
        have hgn : u.ownBlock ≠ some gb := fun e => by have := (own_lt HUA.out gb e).1; omega
        have hgg : u.ownBlock ≠ some g := ob_own HDA.out.ob HUA.out (by decide)
        have oG : Only u.ownBlock.toList (W2.alloc (.cells #[.int .i64 22, .int .i64 0, .int .u32 tg] 25)) w7 := (Only.refl _ _).of_grown hg7 (fun j hj => .inl (by rw [hj]; simp))
        have HD7 : Hid (DI w7 B g (.slice (some ⟨gb, 0, none⟩) n c) ((P ++ [(⟨tg, true, a, l⟩ : Dm)]).map (Dm.tk now) ++ R)) := hid (by
          rw [List.map_append, List.map_cons, List.map_nil, HT.out, List.append_assoc]
          exact HDA.out.only oG (fun hm => hgg (by simpa using hm)) (fun j hj hm => hgn (by rw [show gb = j from by simpa [Value.ownBlock] using hj]; simpa using hm)))
        have HU7 : Hid (w7.ownsRow w.heap.size 25 3 v7 (rptS now ((P ++ [(⟨tg, true, a, l⟩ : Dm)]).map Dm.ab)).length (rws ign (rptS now ((P ++ [(⟨tg, true, a, l⟩ : Dm)]).map Dm.ab)))) := hid (by
          rw [drpt_yes HF.out, List.length_append, rws_app]
          simpa [rws] using hv7)
        have HQ7 : Hid (Only [gb] w w7) := hid ((HQS.out.alloc _).of_grown hg7 (fun j hj => .inr (own_lt HUA.out j hj).1))
        clear hv7 hg7 hb7 oG hgn hgg
        go_wp2_with fail
        go_roundw
        case rel => exact ⟨k + 1, P ++ [⟨tg, true, a, l⟩], R, v7, rfl, by first | rfl | go_num, HM1, HP1, by omega, HD7, HU7, HQ7⟩
        case measure => simp [RowKit.intOf]; omega
      · have hf : Dm.fires now ⟨tg, p, a, l⟩ = false := by
          unfold Dm.fires
          cases p with
          | false => rfl
          | true => simpa using hfi
        have ht : Dm.tk now ⟨tg, p, a, l⟩ = ⟨tg, p, a, l⟩ := by unfold Dm.tk; rw [hf]; rfl
        have HD1 : Hid (DI wr B g (.slice (some ⟨gb, 0, none⟩) n c) ((P ++ [(⟨tg, p, a, l⟩ : Dm)]).map (Dm.tk now) ++ R)) := hid (by rw [List.map_append, List.map_cons, List.map_nil, ht, List.append_assoc]; exact HD.out)
        have HU1 : Hid (wr.ownsRow w.heap.size 25 3 u (rptS now ((P ++ [(⟨tg, p, a, l⟩ : Dm)]).map Dm.ab)).length (rws ign (rptS now ((P ++ [(⟨tg, p, a, l⟩ : Dm)]).map Dm.ab)))) := hid (by rw [drpt_no hf]; exact HU.out)
        clear hf ht
        replace c1 : wr.cell? ⟨gb, k * 4 + 1, none⟩ = some (.bool p) := c1
        replace c2 : wr.cell? ⟨gb, k * 4 + 2, none⟩ = some (.int .i64 a) := c2
        cases p with
        | false =>
          clear hfi
          go_wp2_with fail
          go_roundw
          case rel => exact ⟨k + 1, P ++ [⟨tg, false, a, l⟩], R, u, rfl, by first | rfl | go_num, HM1, HP1, by omega, HD1, HU1, HQ⟩
          case measure => simp [RowKit.intOf]; omega
        | true =>
          have hz : ¬ a ≤ now := by simpa using hfi
          clear hfi
          go_wp2_with fail
          go_roundw
          case rel => exact ⟨k + 1, P ++ [⟨tg, true, a, l⟩], R, u, rfl, by first | rfl | go_num, HM1, HP1, by omega, HD1, HU1, HQ⟩
          case measure => simp [RowKit.intOf]; omega
end Go.Proofs.Ytodcjokafjdhdaa.igm
