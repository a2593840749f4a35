/-
  Chapter 3 (wheel): Cancel, At, Set and Len of a wheel that holds any list of timers, by a walk of each text. Conditions: none but those typed.
-/
import Derived.Test.YtnachendenodkaaWhlD
import Derived.Test.YtnachendenodkaaBit
import Derived.Deep.RegionHeld3
import Derived.BigRegion
namespace Go.Proofs.Ytnachendenodkaa.whl
set_option linter.unusedVariables false
set_option linter.unusedSimpArgs false
open Go.ChangeShapes Go.WideShapes Go.ChangeAt Go.RowKit Go.IntWalk Go.Lib
/-- A wheel in block g that holds the timers L. -/
structure WV (w : World) (g : Nat) (vs : List Value) (L : List Tm) : Prop where
  r : WR w g vs (bk L) L.length
  key : (keys L).Nodup
  ran : ∀ t ∈ L, 0 ≤ t.a ∧ t.a ≤ 1099511627776
  most : L.length ≤ 256
theorem WV.only {w w' : World} {g : Nat} {vs : List Value} {L : List Tm} {S : List Nat} (h : WV w g vs L) (o : Only S w w') (h1 : g ∉ S) (h2 : ∀ b, b ∈ blocks vs → b ∉ S) : WV w' g vs L := ⟨h.r.only o h1 h2, h.key, h.ran, h.most⟩
theorem WV.only_nil {w w' : World} {g : Nat} {vs : List Value} {L : List Tm} (h : WV w g vs L) (o : Only [] w w') : WV w' g vs L := h.only o (by simp) (by simp)
theorem bk_len (L : List Tm) (s : Nat) : (bk L s).length ≤ L.length := List.length_filter_le _ _
/-- What follows: the wheel holds L', in rows that were its own before or are new; nothing else is written. -/
def WNext (w : World) (g : Nat) (vs : List Value) (L' : List Tm) (w' : World) : Prop := ∃ vs', WV w' g vs' L' ∧ (∀ b, b ∈ blocks vs' → b ∈ blocks vs ∨ w.heap.size ≤ b) ∧ Only (g :: blocks vs) w w'
theorem WNext.same {w w' : World} {g : Nat} {vs : List Value} {L : List Tm} (h : WV w g vs L) (o : Only [] w w') : WNext w g vs L w' := ⟨vs, h.only_nil o, fun b hb => .inl hb, o.more (by simp)⟩
theorem wh_set (vs : List Value) (n : Int) (s : Nat) (v : Value) (h : s < vs.length) : (Wh vs n).setIfInBounds s v = Wh (vs.set s v) n := by
  unfold Wh
  rw [List.setIfInBounds_toArray, List.set_append_left _ _ h]
theorem wh_cnt (vs : List Value) (n m : Int) (h : vs.length = 64) : (Wh vs n).setIfInBounds 64 (.int .i64 m) = Wh vs m := by
  unfold Wh
  rw [List.setIfInBounds_toArray, List.set_append_right _ _ (by omega), h]
  rfl
theorem getD_set (vs : List Value) (s t : Nat) (v : Value) (h : s < vs.length) : (vs.set s v).getD t nilv = if t = s then v else vs.getD t nilv := by
  simp only [List.getD_eq_getElem?_getD, List.getElem?_set]
  by_cases e : s = t
  · subst e; simp [h]
  · simp [e, Ne.symm e]
/-- A slot is written anew. -/
theorem WR.put {w : World} {g : Nat} {vs : List Value} {C : Nat → List Tm} {n : Int} {s : Nat} {v : Value} {L' : List Tm} (ho : Ob w g 27 (Wh vs n)) (h64 : vs.length = 64) (hs : s < 64)
    (hown : ∀ t, t < 64 → t ≠ s → w.ownsRow 0 55 2 (vs.getD t nilv) (C t).length (tcs (C t))) (hap : ∀ t u, t < 64 → u < 64 → t ≠ u → ∀ b, (vs.getD t nilv).ownBlock = some b → (vs.getD u nilv).ownBlock ≠ some b)
    (hv : w.ownsRow 0 55 2 v L'.length (tcs L')) (hd : ∀ t, t < 64 → t ≠ s → ∀ b, v.ownBlock = some b → (vs.getD t nilv).ownBlock ≠ some b) :
    WR (w.setCell ⟨g, s, none⟩ v) g (vs.set s v) (fun t => if t = s then L' else C t) n := by
  have hl : s < vs.length := by omega
  have hO : Only [g] w (w.setCell ⟨g, s, none⟩ v) := (Only.refl _ _).setCell (p := ⟨g, s, none⟩) (.inl (by simp)) v
  refine ⟨?_, by rw [List.length_set]; exact h64, fun t ht => ?_, fun t u ht hu htu b hb => ?_⟩
  · rw [← wh_set vs n s v hl]; exact ho.set s v
  · rw [getD_set vs s t v hl]
    by_cases e : t = s
    · rw [if_pos e]; simp only [if_pos e]
      exact own_only hv hO (fun b hb hm => own_neW ho hv (by rw [hb]; simpa using hm))
    · rw [if_neg e]; simp only [if_neg e]
      exact own_only (hown t ht e) hO (fun b hb hm => own_neW ho (hown t ht e) (by rw [hb]; simpa using hm))
  · rw [getD_set vs s _ v hl] at hb ⊢
    by_cases e : t = s
    · rw [if_pos e] at hb
      rw [if_neg (fun e2 => htu (e.trans e2.symm))]
      exact hd u hu (fun e2 => htu (e.trans e2.symm)) b hb
    · rw [if_neg e] at hb
      by_cases e2 : u = s
      · rw [if_pos e2]
        exact fun h => hd t ht e b h hb
      · rw [if_neg e2]; exact hap t u ht hu htu b hb
theorem WR.cnt {w : World} {g : Nat} {vs : List Value} {C : Nat → List Tm} {n : Int} (h : WR w g vs C n) (m : Int) : WR (w.setCell ⟨g, 64, none⟩ (.int .i64 m)) g vs C m := by
  have hO : Only [g] w (w.setCell ⟨g, 64, none⟩ (.int .i64 m)) := (Only.refl _ _).setCell (p := ⟨g, 64, none⟩) (.inl (by simp)) _
  refine ⟨?_, h.n64, fun t ht => own_only (h.own t ht) hO (fun b hb hm => own_neW h.ob (h.own t ht) (by rw [hb]; simpa using hm)), h.apart⟩
  rw [← wh_cnt vs n m h.n64]; exact h.ob.set 64 _
theorem WR.congr {w : World} {g : Nat} {vs : List Value} {C D : Nat → List Tm} {n : Int} (h : WR w g vs C n) (e : ∀ s, s < 64 → C s = D s) : WR w g vs D n := ⟨h.ob, h.n64, fun s hs => by rw [← e s hs]; exact h.own s hs, h.apart⟩
theorem blocks_set {vs : List Value} {s b : Nat} {v : Value} (hs : s < vs.length) (h : b ∈ blocks (vs.set s v)) : b ∈ blocks vs ∨ v.ownBlock = some b := by
  obtain ⟨t, ht, e⟩ := mem_blocks h
  rw [getD_set vs s t v hs] at e
  by_cases h1 : t = s
  · rw [if_pos h1] at e; exact .inr e
  · rw [if_neg h1] at e; exact .inl (blocks_mem (by simpa using ht) e)
/-- slices.Delete of one timer of a row. -/
theorem delTm (w : World) (v : Value) (L : List Tm) (p : Nat) (hv : w.ownsRow 0 55 2 v L.length (tcs L)) (hp : p < L.length) :
    Calls Try.prog 28 #[v, .int .i64 p, .int .i64 ((p : Int) + 1)] w fun x w' => ∃ A' n' c', x = .returned (.slice A' n' c') ∧ w'.ownsRow 0 55 2 (.slice A' n' c') (L.eraseIdx p).length (tcs (L.eraseIdx p)) ∧ (Value.slice A' n' c').ownBlock = v.ownBlock ∧ Only v.ownBlock.toList w w' := by
  rcases hv.2 with ⟨_, h0⟩ | ⟨b, cap, cur, rfl, _, hh, hc, hm, hs, ht⟩
  · omega
  · have h1 := del1 w b L.length cap p (p + 1) cur hh (by omega) (by omega) hc hm hs (by rw [ht]; exact tcs_one L)
    rw [show ((p + 1 : Nat) : Int) = (p : Int) + 1 from by omega] at h1
    refine h1.mono ?_
    rintro x w' ⟨rfl, cur', ho, hs', ht', o⟩
    have hl : (L.eraseIdx p).length = p + (L.length - (p + 1)) := by rw [List.length_eraseIdx, if_pos hp]; omega
    refine ⟨_, _, _, rfl, ?_, rfl, o.more (by simp [Value.ownBlock])⟩
    rw [hl]
    refine ⟨by rw [tcs_len, hl], .inr ⟨b, cap, cur', rfl, by omega, ho, by omega, hm, hs', ?_⟩⟩
    rw [ht', tcs_erase L p hp, ← ht]
    congr 1
    rw [List.take_take, Nat.min_eq_left (by omega)]
def has (L : List Tm) (key : Int) : Bool := L.any fun t => t.k == key
theorem has_no {L : List Tm} {key : Int} (h : ∀ s, s < 64 → ∀ t ∈ bk L s, t.k ≠ key) : has L key = false := by
  unfold has
  rw [List.any_eq_false]
  intro t ht
  obtain ⟨s, hs, hm⟩ := mem_bk ht
  simpa using h s hs t hm
theorem has_yes {L : List Tm} {key : Int} {t : Tm} (h : t ∈ L) (e : t.k = key) : has L key = true := by
  unfold has; rw [List.any_eq_true]; exact ⟨t, h, by simpa using e⟩
theorem has_rm {L : List Tm} {key : Int} (h : has L key = false) : rm L key = L := by
  unfold has at h
  rw [List.any_eq_false] at h
  exact rm_none fun t ht => by simpa using h t ht
set_option maxRecDepth 100000 in
set_option maxHeartbeats 4000000 in
theorem cancelL (w : World) (g : Nat) (vs : List Value) (L : List Tm) (key : Int) (h : WV w g vs L) : Calls Try.prog 16 #[.pointer (some ⟨g, 0, none⟩), .int .i64 key] w fun x w' => x = .returned (.bool (has L key)) ∧ WNext w g vs (rm L key) w' := by
  have H := hid h
  have hm := h.most
  have HF := hid (findL w g vs (bk L) L.length key h.r (fun s hs => by have := bk_len L s; omega))
  clear h
  go_enter Try.func16, Try.ntmps16
  go_wp2_with fail
  refine HF.out.mono ?_
  rintro x w1 ⟨hx, o1⟩
  have Q1 := hid o1; clear o1
  rcases hx with ⟨rfl, hno⟩ | ⟨s, p, hs, hp, hk, rfl⟩
  · have HE := hid (has_no hno)
    clear hno
    go_wp2
    go_ret
    exact ⟨rBool HE.out.symm, by rw [has_rm HE.out]; exact WNext.same H.out Q1.out⟩
  · have HP := hid hp; have HK := hid hk
    have H1 := hid (H.out.only_nil Q1.out)
    have HGM := hid (gt_mem (bk L s) p hp); have HRM := hid (rm_at (bk L s) key p (nodup_bk H1.out.key s) hp hk); clear hp hk
    obtain ⟨A, c, hv, hnc, hcm, hA0, hRd, hsh, hbl⟩ := H1.out.r.slot s hs
    have HV := hid hv
    have c0 : w1.cell? ⟨g, s, none⟩ = some (.slice A (bk L s).length c) := by rw [H1.out.r.cellS s hs, hv]
    have hpc : p < 9223372036854775807 := by have := HP.out; have := bk_len L s; omega
    have HD : ∀ W, Hid (Only [] w1 W) → Calls Try.prog 28 #[.slice A (bk L s).length c, .int .i64 p, .int .i64 ((p : Int) + 1)] W fun x w' => ∃ A' n' c', x = .returned (.slice A' n' c') ∧ w'.ownsRow 0 55 2 (.slice A' n' c') ((bk L s).eraseIdx p).length (tcs ((bk L s).eraseIdx p)) ∧ (Value.slice A' n' c').ownBlock = (Value.slice A (bk L s).length c).ownBlock ∧ Only (Value.slice A (bk L s).length c).ownBlock.toList W w' := fun W hW => by
      have h9 := (H1.out.r.own s hs)
      rw [HV.out] at h9
      exact delTm W _ (bk L s) p (own_only_nil h9 hW.out) HP.out
    have HDD := hid HD
    clear hA0 hRd hsh hbl hv HD hnc hcm
    generalize (bk L s).length = nn at *
    have hs2 : (s : Int) < 64 := by omega
    have NG : Hid (g ∉ (Value.slice A nn c).ownBlock.toList) := hid (fun hm => by have h9 := own_neW H1.out.r.ob (H1.out.r.own s hs); rw [HV.out] at h9; exact h9 (by simpa using hm))
    go_wp2_with fail
    refine wp_region_noPanic ?_
    refine rgn.regionT (R := AnyW) (by kernel_rfl) (fun _ => AnyW.any _ _) (fun _ _ _ _ _ => AnyW.any _ _) (fun _ _ _ _ _ h => h) (.y 0 (.y 1 (.y 2 (.y 3 (.y 4 (.y 5 (.y 6 (.y 8 (.y 9 (.y 10 (.y 12 (.y 13 (.e 7 (.e 11 (.y 14 (.e 15 .z)))))))))))))))) (by kernel_rfl) (fun W hWd => ?_)
    have HWd := hid hWd; clear hWd
    have c0 : W.cell? ⟨g, s, none⟩ = some (.slice A nn c) := by rw [HWd.out]; exact c0
    refine rgn.Walk.ys (v := ?_) rfl rfl rfl ?_ ?_
    rotate_left 1
    · intro W' hW'
      go_simp
      try with_reducible rfl
    try simp only [Act.put, List.setIfInBounds_toArray, List.set_cons_zero, List.set_cons_succ]
    refine rgn.Walk.ys (v := ?_) rfl rfl rfl ?_ ?_
    rotate_left 1
    · intro W' hW'
      go_simp
      try with_reducible rfl
    try simp only [Act.put, List.setIfInBounds_toArray, List.set_cons_zero, List.set_cons_succ]
    refine rgn.Walk.ys (v := ?_) rfl rfl rfl ?_ ?_
    rotate_left 1
    · intro W' hW'
      go_simp
      try with_reducible rfl
    try simp only [Act.put, List.setIfInBounds_toArray, List.set_cons_zero, List.set_cons_succ]
    refine rgn.Walk.ys (v := ?_) rfl rfl rfl ?_ ?_
    rotate_left 1
    · intro W' hW'
      go_simp
      try with_reducible rfl
    try simp only [Act.put, List.setIfInBounds_toArray, List.set_cons_zero, List.set_cons_succ]
    refine rgn.Walk.ys (v := ?_) rfl rfl rfl ?_ ?_
    rotate_left 1
    · intro W' hW'
      go_simp
      try with_reducible rfl
    try simp only [Act.put, List.setIfInBounds_toArray, List.set_cons_zero, List.set_cons_succ]
    refine rgn.Walk.ys (v := ?_) rfl rfl rfl ?_ ?_
    rotate_left 1
    · intro W' hW'
      go_simp
      try with_reducible rfl
    try simp only [Act.put, List.setIfInBounds_toArray, List.set_cons_zero, List.set_cons_succ]
    refine rgn.Walk.ys (v := ?_) rfl rfl rfl ?_ ?_
    rotate_left 1
    · intro W' hW'
      go_simp
      try with_reducible rfl
    try simp only [Act.put, List.setIfInBounds_toArray, List.set_cons_zero, List.set_cons_succ]
    refine rgn.Walk.ys (v := ?_) rfl rfl rfl ?_ ?_
    rotate_left 1
    · intro W' hW'
      go_simp
      try with_reducible rfl
    try simp only [Act.put, List.setIfInBounds_toArray, List.set_cons_zero, List.set_cons_succ]
    refine rgn.Walk.ys (v := ?_) rfl rfl rfl ?_ ?_
    rotate_left 1
    · intro W' hW'
      go_simp
      try with_reducible rfl
    try simp only [Act.put, List.setIfInBounds_toArray, List.set_cons_zero, List.set_cons_succ]
    refine rgn.Walk.ys (v := ?_) rfl rfl rfl ?_ ?_
    rotate_left 1
    · intro W' hW'
      go_simp
      try rw [i64_in _ (by omega)]
      try with_reducible rfl
    try simp only [Act.put, List.setIfInBounds_toArray, List.set_cons_zero, List.set_cons_succ]
    refine rgn.Walk.ys (v := ?_) rfl rfl rfl ?_ ?_
    rotate_left 1
    · intro W' hW'
      go_simp
      try with_reducible rfl
    try simp only [Act.put, List.setIfInBounds_toArray, List.set_cons_zero, List.set_cons_succ]
    refine rgn.Walk.ys (v := ?_) rfl rfl rfl ?_ ?_
    rotate_left 1
    · intro W' hW'
      go_simp
      try with_reducible rfl
    try simp only [Act.put, List.setIfInBounds_toArray, List.set_cons_zero, List.set_cons_succ]
    refine rgn.Walk.es ?_
    refine rgn.stepE rfl rfl (fun K hK => ?_)
    have qq : World.cell? _ ⟨g, s, none⟩ = some (.slice A nn c) := c0
    go_simp
    refine hK _ _ (AnyW.any _ _) ?_
    clear hK K qq
    try simp only [Act.put, List.setIfInBounds_toArray, List.set_cons_zero, List.set_cons_succ]
    refine rgn.Walk.es ?_
    refine rgn.stepE rfl rfl (fun K hK => ?_)
    go_simp
    refine (HDD.out W ?qd).mono ?_
    case qd => exact hid (by rw [HWd.out]; exact (Only.refl _ _).drew)
    rintro x w2 ⟨A', n', c', rfl, hv2, hb2, o2⟩
    refine hK _ _ (AnyW.any _ _) ?_
    clear hK K
    try simp only [Act.put, List.setIfInBounds_toArray, List.set_cons_zero, List.set_cons_succ]
    have HV2 := hid hv2; have HB2 := hid hb2; have HO2 := hid o2; clear hv2 hb2 o2
    have HOB : Hid (Ob w2 g 27 (Wh vs L.length)) := hid ((show Ob W g 27 (Wh vs L.length) from by rw [HWd.out]; exact H1.out.r.ob).only HO2.out (NG.out))
    refine rgn.Walk.ys (v := ?_) rfl rfl rfl ?_ ?_
    rotate_left 1
    · intro W' hW'
      go_simp
      try with_reducible rfl
    try simp only [Act.put, List.setIfInBounds_toArray, List.set_cons_zero, List.set_cons_succ]
    refine rgn.Walk.es ?_
    refine rgn.stepE rfl rfl (fun K hK => ?_)
    have qq : (World.cell? _ ⟨g, s, none⟩) = some (vs.getD s nilv) := (by rw [HOB.out.cell s]; simp [Wh, List.getElem?_append_left (show s < vs.length from by rw [H1.out.r.n64]; exact hs), show s < vs.length from by rw [H1.out.r.n64]; exact hs])
    have ff := HOB.out.frozen s
    go_simp
    refine hK _ _ (AnyW.any _ _) ?_
    clear hK K qq ff
    try simp only [Act.put, List.setIfInBounds_toArray, List.set_cons_zero, List.set_cons_succ]
    refine rgn.Walk.zs (NoPanic.normal ?_)
    have HR := hid (WR.put (w := w2) (C := bk L) (n := L.length) (s := s) (v := .slice A' n' c') (L' := (bk L s).eraseIdx p) HOB.out H1.out.r.n64 hs (fun t ht hts => own_only (own_only_nil (H1.out.r.own t ht) (by rw [HWd.out]; exact (Only.refl _ _).drew)) HO2.out (fun b hb hm => H1.out.r.apart t s ht hs hts b hb (by rw [HV.out]; simpa using hm))) H1.out.r.apart HV2.out (fun t ht hts b hb hb3 => H1.out.r.apart t s ht hs hts b hb3 (by rw [HV.out, ← HB2.out]; exact hb)))
    have HQ3 : Hid (Only (g :: blocks vs) w (w2.setCell ⟨g, s, none⟩ (.slice A' n' c'))) := hid (by
      have q1 : Only [] w W := by rw [HWd.out]; exact Q1.out.drew
      refine ((q1.more (by simp)).trans (HO2.out.more ?_)).setCell (p := ⟨g, s, none⟩) (.inl (by simp)) _
      intro b hb
      exact List.mem_cons_of_mem _ (blocks_mem (s := s) (by rw [H1.out.r.n64]; exact hs) (by rw [HV.out]; simpa using hb)))
    have HBk : Hid (∀ b, b ∈ blocks (vs.set s (.slice A' n' c')) → b ∈ blocks vs) := hid (fun b hb => by
      rcases blocks_set (by rw [H1.out.r.n64]; exact hs) hb with h1 | h1
      · exact h1
      · exact blocks_mem (s := s) (by rw [H1.out.r.n64]; exact hs) (by rw [HV.out, ← HB2.out]; exact h1))
    have HC : Hid (∀ t, t < 64 → (if t = s then (bk L s).eraseIdx p else bk L t) = bk (rm L key) t) := hid (fun t ht => by
      rw [rm_bk]
      by_cases e : t = s
      · subst e; rw [if_pos rfl, HRM.out]
      · rw [if_neg e, rm_none]
        intro u hu hk
        have hg := bk_mem HGM.out
        have hu2 := bk_mem hu
        have e3 := key_one H1.out.key hg.1 hu2.1 (by rw [HK.out, hk])
        have e4 := hg.2
        rw [e3, hu2.2] at e4
        omega)
    have HLn : Hid ((rm L key).length + 1 = L.length) := hid (rm_len H1.out.key (bk_mem HGM.out).1 HK.out)
    have HE := hid (has_yes (bk_mem HGM.out).1 HK.out)
    clear c0 HDD HV HB2 HV2 HOB HO2 HF HP HK NG
    obtain ⟨W3, hW3⟩ : ∃ W3, W3 = w2.setCell ⟨g, s, none⟩ (.slice A' n' c') := ⟨_, rfl⟩
    have HR : Hid (WR W3 g (vs.set s (.slice A' n' c')) (fun t => if t = s then (bk L s).eraseIdx p else bk L t) L.length) := hid (by rw [hW3]; exact HR.out)
    have HQ3 : Hid (Only (g :: blocks vs) w W3) := hid (by rw [hW3]; exact HQ3.out)
    first | rw [← hW3] | simp only [← hW3]
    clear hW3
    have cn := HR.out.cellN
    have fn := HR.out.ob.frozen 64
    go_wp2
    go_ret
    refine ⟨rBool HE.out.symm, _, ⟨?_, rm_nodup H1.out.key _, fun t ht => H1.out.ran t (rm_not ht).1, by have := HLn.out; have := H1.out.most; omega⟩, fun b hb => .inl (HBk.out b hb), HQ3.out.setCell (p := ⟨g, 64, none⟩) (.inl (by simp)) _⟩
    have e9 : ((L.length : Int) - 1) = ((rm L key).length : Int) := by have := HLn.out; omega
    rw [← e9]
    exact (HR.out.cnt _).congr HC.out
set_option maxRecDepth 100000 in
set_option maxHeartbeats 4000000 in
theorem atL (w : World) (g : Nat) (vs : List Value) (L : List Tm) (key : Int) (h : WV w g vs L) : Calls Try.prog 15 #[.pointer (some ⟨g, 0, none⟩), .int .i64 key] w fun x w' => ((x = .returned (.tuple #[.int .i64 0, .bool false]) ∧ has L key = false) ∨ ∃ t, t ∈ L ∧ t.k = key ∧ x = .returned (.tuple #[.int .i64 t.a, .bool true])) ∧ Only [] w w' := by
  have H := hid h
  have hm := h.most
  have HF := hid (findL w g vs (bk L) L.length key h.r (fun s hs => by have := bk_len L s; omega))
  clear h
  go_enter Try.func15, Try.ntmps15
  go_wp2_with fail
  refine HF.out.mono ?_
  rintro x w1 ⟨hx, o1⟩
  have Q1 := hid o1; clear o1
  rcases hx with ⟨rfl, hno⟩ | ⟨s, p, hs, hp, hk, rfl⟩
  · have HE := hid (has_no hno)
    clear hno
    go_wp2
    go_ret2
    exact ⟨.inl ⟨rfl, HE.out⟩, Q1.out⟩
  · have HP := hid hp; have HK := hid hk; clear hk
    have H1 := hid (H.out.only_nil Q1.out)
    obtain ⟨A, c, hv, hnc, hcm, hA0, hRd, hsh, hbl⟩ := H1.out.r.slot s hs
    have c0 : w1.cell? ⟨g, s, none⟩ = some (.slice A (bk L s).length c) := by rw [H1.out.r.cellS s hs, hv]
    obtain ⟨b, off, rfl, hb, hc⟩ := (TRd.of hRd).at_ (by omega)
    obtain ⟨q0, q1⟩ := hc p hp
    have hpz : (p : Int) < (bk L s).length := by omega
    have HM := hid (gt_mem (bk L s) p hp)
    have hn9 : (bk L s).length ≤ 256 := Nat.le_trans (bk_len L s) hm
    clear hA0 hRd hsh hbl hv hnc hcm hc hp
    generalize (bk L s).length = nn at *
    obtain ⟨u, hu⟩ : ∃ u, gt (bk L s) p = u := ⟨_, rfl⟩
    rw [hu] at q0 q1 HM HK
    clear hu
    obtain ⟨ua, hua⟩ : ∃ ua, u.a = ua := ⟨_, rfl⟩
    rw [hua] at q1
    have HA := hid hua; clear hua q0
    have hs2 : (s : Int) < 64 := by omega
    go_wp2
    go_ret2
    exact ⟨.inr ⟨u, (bk_mem HM.out).1, HK.out, by rw [HA.out]; rfl⟩, Q1.out⟩
theorem lenL (w : World) (g : Nat) (vs : List Value) (L : List Tm) (h : WV w g vs L) : Calls Try.prog 10 #[.pointer (some ⟨g, 0, none⟩)] w fun x w' => x = .returned (.int .i64 L.length) ∧ Only [] w w' := by
  have cn := h.r.cellN
  have Q : Hid (Only [] w w) := hid (Only.refl _ _)
  clear h
  go_enter Try.func10, Try.ntmps10
  go_wp2
  go_ret
  exact ⟨rfl, Q.out⟩
theorem slot1 (w : World) (a : Int) : Calls Try.prog 22 #[.int .i64 a] w fun x w' => x = .returned (.int .i64 (a % 64)) ∧ w = w' := by
  have hb : bits .and .i64 a 63 = a % 64 := i64_mask a 6 63 (by decide) (by decide)
  go_enter Try.func22, Try.ntmps22
  go_wp2
  go_ret
  exact ⟨rInt (by first | exact hb | rfl), rfl⟩
theorem tmElemS : ElemS Try.prog 24 55 (.agg #[.int .i64 0, .int .i64 0]) 2 16 := ⟨Try.underlying24, by kernel_rfl, rfl, by omega⟩
/-- A timer is put behind those of its slot. -/
theorem WV.add {w w4 : World} {g : Nat} {vs : List Value} {L : List Tm} {s : Nat} {key a : Int} {v : Value} (H : WV w g vs L) (hs64 : s < 64) (hs : a % 64 = (s : Int)) (o : Only (vs.getD s nilv).ownBlock.toList w w4)
    (hown : w4.ownsRow 0 55 2 v ((bk L s).length + 1) (tcs (bk L s) ++ Tm.cs ⟨key, a⟩)) (hb : v.ownBlock = (vs.getD s nilv).ownBlock ∨ ∀ b, v.ownBlock = some b → w.heap.size ≤ b) :
    WR (w4.setCell ⟨g, s, none⟩ v) g (vs.set s v) (bk (L ++ [⟨key, a⟩])) L.length ∧ Only (g :: blocks vs) w (w4.setCell ⟨g, s, none⟩ v) ∧ (∀ b, b ∈ blocks (vs.set s v) → b ∈ blocks vs ∨ w.heap.size ≤ b) := by
  have hl : s < vs.length := by rw [H.r.n64]; exact hs64
  have e0 : bk (L ++ [⟨key, a⟩]) s = bk L s ++ [⟨key, a⟩] := by rw [bk_app, bk_one, if_pos hs]
  have e1 : ∀ t : Nat, t ≠ s → bk (L ++ [⟨key, a⟩]) t = bk L t := fun t ht => by
    rw [bk_app, bk_one, if_neg (by show ¬ a % 64 = _; omega), List.append_nil]
  have ho4 : Ob w4 g 27 (Wh vs L.length) := H.r.ob.only o (fun hm => own_neW H.r.ob (H.r.own s hs64) (by simpa using hm))
  have hlow : ∀ t, t < 64 → t ≠ s → ∀ b, (vs.getD t nilv).ownBlock = some b → b ∉ (vs.getD s nilv).ownBlock.toList := fun t ht hts b hb hm => H.r.apart t s ht hs64 hts b hb (by simpa using hm)
  refine ⟨?_, ?_, fun b hm => ?_⟩
  · refine (WR.put (C := bk L) (L' := bk (L ++ [⟨key, a⟩]) s) ho4 H.r.n64 hs64 (fun t ht hts => own_only (H.r.own t ht) o (hlow t ht hts)) H.r.apart (by rw [e0, List.length_append, tcs_app]; simpa [tcs] using hown) (fun t ht hts b hb1 hb2 => ?_)).congr (fun t ht => ?_)
    · rcases hb with h | h
      · exact H.r.apart t s ht hs64 hts b hb2 (by rw [← h]; exact hb1)
      · have := h b hb1
        have := (H.r.own t ht).lt b hb2
        omega
    · by_cases e : t = s
      · subst e; rw [if_pos rfl]
      · rw [if_neg e, e1 t e]
  · refine (o.more (fun b hm => ?_)).setCell (p := ⟨g, s, none⟩) (.inl (by simp)) _
    exact List.mem_cons_of_mem _ (blocks_mem hl (by simpa using hm))
  · rcases blocks_set hl hm with h1 | h1
    · exact .inl h1
    · rcases hb with h | h
      · exact .inl (blocks_mem hl (by rw [← h]; exact h1))
      · exact .inr (h b h1)
theorem rm_has (L : List Tm) (key : Int) : has (rm L key) key = false := by
  unfold has
  rw [List.any_eq_false]
  intro t ht
  simpa using (rm_not ht).2
theorem nodup_add {L : List Tm} {key a : Int} (h : (keys L).Nodup) (hk : has L key = false) : (keys (L ++ [⟨key, a⟩])).Nodup := by
  unfold keys
  rw [List.map_append, List.nodup_append]
  refine ⟨h, by simp, fun x hx y hy => ?_⟩
  obtain ⟨t, ht, rfl⟩ := List.mem_map.1 hx
  have : y = key := by simpa using hy
  subst this
  unfold has at hk
  rw [List.any_eq_false] at hk
  simpa using hk t ht
/-- What Set answers, and which timers there are then. -/
def setE (L : List Tm) (key a : Int) : Int := if a < 0 ∨ 1099511627776 < a then 1 else if has L key = false ∧ 256 ≤ L.length then 6 else 0
def setS (L : List Tm) (key a : Int) : List Tm := if setE L key a = 0 then rm L key ++ [⟨key, a⟩] else L
set_option maxRecDepth 100000 in
set_option maxHeartbeats 8000000 in
theorem setL (w : World) (g : Nat) (vs : List Value) (L : List Tm) (key a : Int) (h : WV w g vs L) : Calls Try.prog 12 #[.pointer (some ⟨g, 0, none⟩), .int .i64 key, .int .i64 a] w fun x w' => x = .returned (.int .i64 (setE L key a)) ∧ WNext w g vs (setS L key a) w' := by
  have H := hid h
  by_cases h1 : a < 0 ∨ 1099511627776 < a
  · have HE : Hid (setE L key a = 1) := hid (by unfold setE; rw [if_pos h1])
    have HSS : Hid (setS L key a = L) := hid (by unfold setS; rw [HE.out]; rfl)
    clear h
    by_cases h2 : a < 0
    · clear h1
      go_enter Try.func12, Try.ntmps12
      go_wp2
      go_ret
      exact ⟨rInt HE.out.symm, by rw [HSS.out]; exact WNext.same H.out (Only.refl _ _)⟩
    · have h3 : 1099511627776 < a := by omega
      clear h1
      go_enter Try.func12, Try.ntmps12
      go_wp2
      go_ret
      exact ⟨rInt HE.out.symm, by rw [HSS.out]; exact WNext.same H.out (Only.refl _ _)⟩
  · have ha0 : 0 ≤ a := by omega
    have ha1 : a ≤ 1099511627776 := by omega
    have HRa : Hid (0 ≤ a ∧ a ≤ 1099511627776) := hid ⟨ha0, ha1⟩
    have HCa := hid (cancelL w g vs L key h)
    by_cases h6 : has L key = false ∧ 256 ≤ L.length
    · have HE : Hid (setE L key a = 6) := hid (by unfold setE; rw [if_neg h1, if_pos h6])
      have HSS : Hid (setS L key a = L) := hid (by unfold setS; rw [HE.out]; rfl)
      have HNo := hid h6.1
      have hln : (256 : Int) ≤ L.length := by have := h6.2; omega
      clear h h1 h6
      go_enter Try.func12, Try.ntmps12
      go_wp2_with fail
      refine HCa.out.mono ?_
      rintro x w1 ⟨rfl, vs1, hV1, hb1, q1⟩
      rw [has_rm HNo.out] at hV1
      have HV1 := hid hV1; have HB1 := hid hb1; have Q1 := hid q1
      have cn := hV1.r.cellN
      rw [HNo.out]
      clear hV1 hb1 q1
      go_wp2
      go_ret
      exact ⟨rInt HE.out.symm, by rw [HSS.out]; exact ⟨vs1, HV1.out, HB1.out, Q1.out⟩⟩
    · have HE : Hid (setE L key a = 0) := hid (by unfold setE; rw [if_neg h1, if_neg h6])
      have HSS : Hid (setS L key a = rm L key ++ [⟨key, a⟩]) := hid (by unfold setS; rw [if_pos HE.out])
      have HLt : Hid ((rm L key).length + 1 ≤ 256) := hid (by
        cases hh : has L key with
        | false =>
          rw [has_rm hh]
          by_cases h9 : 256 ≤ L.length
          · exact absurd ⟨hh, h9⟩ h6
          · omega
        | true =>
          unfold has at hh
          rw [List.any_eq_true] at hh
          obtain ⟨t, ht, hk⟩ := hh
          have := rm_len h.key ht (by simpa using hk)
          have := h.most
          omega)
      have h7 : has L key = false → ¬ ((256 : Int) ≤ (rm L key).length) := fun _ => by have := HLt.out; omega
      have HNo : Hid (has (rm L key) key = false) := hid (rm_has L key)
      obtain ⟨L1, hL1⟩ : ∃ L1, rm L key = L1 := ⟨_, rfl⟩
      obtain ⟨s, hs⟩ : ∃ s : Nat, a % 64 = (s : Int) := ⟨(a % 64).toNat, by omega⟩
      have HS := hid hs
      have hs64 : s < 64 := by omega
      have HSL : Hid (∀ W, Calls Try.prog 22 #[.int .i64 a] W fun x w' => x = .returned (.int .i64 (s : Int)) ∧ W = w') := hid (fun W => by have := slot1 W a; rwa [HS.out] at this)
      rw [hL1] at HCa HSS HLt HNo h7
      have hlt1 : L1.length + 1 ≤ 256 := HLt.out
      have ROne : Hid (∀ W : World, RdS (W.alloc (.cells #[.int .i64 key, .int .i64 a] 55)) (some ⟨W.heap.size, 0, none⟩) 1 2 (Tm.cs ⟨key, a⟩)) := hid (fun W => ⟨rfl, by intro u hu; simp [Tm.cs] at hu; rcases hu with rfl | rfl <;> rfl, fun _ => ⟨W.heap.size, 0, rfl, by simp, fun j u hj => by rw [Nat.zero_add, (Ob.new W 55 #[.int .i64 key, .int .i64 a]).cell j]; simpa [Tm.cs] using hj⟩⟩)
      clear h h1 h6 hs hL1
      obtain ⟨hb, hhb⟩ : ∃ hb, has L key = hb := ⟨_, rfl⟩
      rw [hhb] at HCa h7
      clear hhb
      have GO : ∀ hb : Bool, Hid True → True := fun _ _ => trivial
      clear GO
      go_enter Try.func12, Try.ntmps12
      go_wp2_with fail
      refine HCa.out.mono ?_
      rintro x w1 ⟨rfl, vs1, hV1, hb1, q1⟩
      have H1 := hid hV1; have HBk1 := hid hb1; have Q1 := hid q1
      have cn := hV1.r.cellN
      have hlN : (L1.length : Int) < 256 := by omega
      obtain ⟨A, c, hv, hnc, hcm, hA0, hRd, hsh, hbl⟩ := hV1.r.slot s hs64
      have HV := hid hv
      have c0 : w1.cell? ⟨g, s, none⟩ = some (.slice A (bk L1 s).length c) := by rw [hV1.r.cellS s hs64, hv]
      have HOw : Hid (w1.ownsRow 0 55 2 (.slice A (bk L1 s).length c) (bk L1 s).length (tcs (bk L1 s))) := hid (by have := hV1.r.own s hs64; rwa [hv] at this)
      have hsl : Hid (s < vs1.length) := hid (by rw [hV1.r.n64]; exact hs64)
      have hnn : (bk L1 s).length ≤ 256 := Nat.le_trans (bk_len L1 s) (by omega)
      clear hV1 hb1 q1 hA0 hRd hsh hbl hv hnc hcm
      generalize hNN : (bk L1 s).length = nn at *
      have HNN := hid hNN; clear hNN
      have hs2 : (s : Int) < 64 := by omega
      cases hb
      all_goals
        go_wp2_with fail
        refine wp_region_noPanic ?_
        refine rgn.regionT (R := AnyW) (by kernel_rfl) (fun _ => AnyW.any _ _) (fun _ _ _ _ _ => AnyW.any _ _) (fun _ _ _ _ _ h => h) (.y 0 (.y 1 (.y 3 (.y 4 (.y 6 (.y 7 (.y 10 (.y 11 (.y 12 (.y 15 (.y 16 (.b 2 13 (.b 5 13 (.y 8 (.b 9 13 (.e 13 (.e 14 (.y 17 (.e 18 .z)))) (.e 9 (.e 14 (.y 17 (.e 18 .z)))))) (.e 5 (.y 8 (.e 9 (.e 14 (.y 17 (.e 18 .z))))))) (.e 2 (.e 5 (.y 8 (.e 9 (.e 14 (.y 17 (.e 18 .z))))))))))))))))))) (by kernel_rfl) (fun W hWd => ?_)
        have HWd := hid hWd; clear hWd
        have c0 : W.cell? ⟨g, s, none⟩ = some (.slice A nn c) := by rw [HWd.out]; exact c0
        have HOw : Hid (W.ownsRow 0 55 2 (.slice A nn c) nn (tcs (bk L1 s))) := hid (by rw [HWd.out]; exact own_only_nil HOw.out ((Only.refl _ _).drew))
        have HBX : Hid (Only [] W W) := hid (Only.refl _ _)
        have H1W : Hid (WV W g vs1 L1) := hid (by rw [HWd.out]; exact H1.out.only_nil ((Only.refl _ _).drew))
        have OB4 : Hid (∀ w4, Only (vs1.getD s nilv).ownBlock.toList W w4 → Ob w4 g 27 (Wh vs1 L1.length)) := hid (fun w4 o4 => H1W.out.r.ob.only o4 (fun hm => own_neW H1W.out.r.ob (H1W.out.r.own s hs64) (by simpa using hm)))
        have HFin : Hid (∀ (vs2 : List Value) (W3 : World), (WR W3 g vs2 (bk (L1 ++ [⟨key, a⟩])) L1.length ∧ Only (g :: blocks vs1) W W3 ∧ (∀ b, b ∈ blocks vs2 → b ∈ blocks vs1 ∨ W.heap.size ≤ b)) → WNext w g vs (setS L key a) (W3.setCell ⟨g, 64, none⟩ (.int .i64 ((L1.length : Int) + 1)))) := hid (fun vs2 W3 ⟨r1, r2, r3⟩ => by
          rw [HSS.out]
          have r4 : Only (g :: blocks vs) w W := by rw [HWd.out]; exact Q1.out.drew
          refine ⟨vs2, ⟨?_, nodup_add H1.out.key HNo.out, fun t ht => ?_, ?_⟩, fun b hb => ?_, ?_⟩
          · have e9 : ((L1.length : Int) + 1) = ((L1 ++ [(⟨key, a⟩ : Tm)]).length : Int) := by rw [List.length_append]; rfl
            rw [e9] 
            exact r1.cnt _
          · rcases List.mem_append.1 ht with h | h
            · exact H1.out.ran t h
            · obtain rfl : t = ⟨key, a⟩ := by simpa using h
              exact HRa.out
          · rw [List.length_append]; exact HLt.out
          · rcases r3 b hb with h | h
            · exact HBk1.out b h
            · exact .inr (Nat.le_trans r4.size h)
          · refine Only.setCell (p := ⟨g, 64, none⟩) ?_ (.inl (by simp)) _
            refine r4.fresh r2 (fun i hi => ?_)
            rcases List.mem_cons.1 hi with h | h
            · exact .inl (by simp [h])
            · rcases HBk1.out i h with h2 | h2
              · exact .inl (List.mem_cons_of_mem _ h2)
              · exact .inr h2)
        clear HWd
        refine rgn.Walk.ys (v := ?_) rfl rfl rfl ?_ ?_
        rotate_left 1
        · intro W' hW'
          go_simp
          try with_reducible rfl
        try simp only [Act.put, List.setIfInBounds_toArray, List.set_cons_zero, List.set_cons_succ]
        refine rgn.Walk.ys (v := ?_) rfl rfl rfl ?_ ?_
        rotate_left 1
        · intro W' hW'
          go_simp
          try with_reducible rfl
        try simp only [Act.put, List.setIfInBounds_toArray, List.set_cons_zero, List.set_cons_succ]
        refine rgn.Walk.ys (v := ?_) rfl rfl rfl ?_ ?_
        rotate_left 1
        · intro W' hW'
          go_simp
          try with_reducible rfl
        try simp only [Act.put, List.setIfInBounds_toArray, List.set_cons_zero, List.set_cons_succ]
        refine rgn.Walk.ys (v := ?_) rfl rfl rfl ?_ ?_
        rotate_left 1
        · intro W' hW'
          go_simp
          try with_reducible rfl
        try simp only [Act.put, List.setIfInBounds_toArray, List.set_cons_zero, List.set_cons_succ]
        refine rgn.Walk.ys (v := ?_) rfl rfl rfl ?_ ?_
        rotate_left 1
        · intro W' hW'
          go_simp
          try with_reducible rfl
        try simp only [Act.put, List.setIfInBounds_toArray, List.set_cons_zero, List.set_cons_succ]
        refine rgn.Walk.ys (v := ?_) rfl rfl rfl ?_ ?_
        rotate_left 1
        · intro W' hW'
          go_simp
          try with_reducible rfl
        try simp only [Act.put, List.setIfInBounds_toArray, List.set_cons_zero, List.set_cons_succ]
        refine rgn.Walk.ys (v := ?_) rfl rfl rfl ?_ ?_
        rotate_left 1
        · intro W' hW'
          go_simp
          try with_reducible rfl
        try simp only [Act.put, List.setIfInBounds_toArray, List.set_cons_zero, List.set_cons_succ]
        refine rgn.Walk.ys (v := ?_) rfl rfl rfl ?_ ?_
        rotate_left 1
        · intro W' hW'
          go_simp
          try with_reducible rfl
        try simp only [Act.put, List.setIfInBounds_toArray, List.set_cons_zero, List.set_cons_succ]
        refine rgn.Walk.ys (v := ?_) rfl rfl rfl ?_ ?_
        rotate_left 1
        · intro W' hW'
          go_simp
          try with_reducible rfl
        try simp only [Act.put, List.setIfInBounds_toArray, List.set_cons_zero, List.set_cons_succ]
        refine rgn.Walk.ys (v := ?_) rfl rfl rfl ?_ ?_
        rotate_left 1
        · intro W' hW'
          go_simp
          try with_reducible rfl
        try simp only [Act.put, List.setIfInBounds_toArray, List.set_cons_zero, List.set_cons_succ]
        refine rgn.Walk.ys (v := ?_) rfl rfl rfl ?_ ?_
        rotate_left 1
        · intro W' hW'
          go_simp
          try with_reducible rfl
        try simp only [Act.put, List.setIfInBounds_toArray, List.set_cons_zero, List.set_cons_succ]
        refine rgn.Walk.bs ?_ ?_
        · refine rgn.stepE rfl rfl (fun K hK => ?_)
          go_simp
          refine (HSL.out _).mono ?_
          rintro x w8 ⟨rfl, rfl⟩
          refine hK _ _ (AnyW.any _ _) ?_
          clear hK K
          try simp only [Act.put, List.setIfInBounds_toArray, List.set_cons_zero, List.set_cons_succ]
          refine rgn.Walk.bs ?_ ?_
          · refine rgn.stepE rfl rfl (fun K hK => ?_)
            go_simp
            refine (HSL.out _).mono ?_
            rintro x w8 ⟨rfl, rfl⟩
            refine hK _ _ (AnyW.any _ _) ?_
            clear hK K
            try simp only [Act.put, List.setIfInBounds_toArray, List.set_cons_zero, List.set_cons_succ]
            refine rgn.Walk.ys (v := ?_) rfl rfl rfl ?_ ?_
            rotate_left 1
            · intro W' hW'
              go_simp
              try with_reducible rfl
            try simp only [Act.put, List.setIfInBounds_toArray, List.set_cons_zero, List.set_cons_succ]
            refine rgn.Walk.bs ?_ ?_
            · refine rgn.stepE rfl rfl (fun K hK => ?_)
              have qq : World.cell? _ ⟨g, s, none⟩ = some (.slice A nn c) := HBX.out.keep c0
              go_simp
              refine hK _ _ (AnyW.any _ _) ?_
              clear hK K qq
              try simp only [Act.put, List.setIfInBounds_toArray, List.set_cons_zero, List.set_cons_succ]
              refine rgn.Walk.es ?_
              refine rgn.stepE rfl rfl (fun K hK => ?_)
              go_simp
              refine hK _ _ (AnyW.any _ _) ?_
              clear hK K
              try simp only [Act.put, List.setIfInBounds_toArray, List.set_cons_zero, List.set_cons_succ]
              have HNW : Hid (RdS (W.alloc (.cells #[.int .i64 key, .int .i64 a] 55)) (some ⟨W.heap.size, 0, none⟩) 1 2 (Tm.cs ⟨key, a⟩)) := hid (ROne.out W)
              have HBX := hid (HBX.out.alloc (.cells #[.int .i64 key, .int .i64 a] 55))
              refine rgn.Walk.es ?_
              refine rgn.stepE rfl rfl (fun K hK => ?_)
              refine opAppS _ rfl (.tmp 37) (.tmp 41) _ rfl tmElemS 0 (.slice A nn c) nn (tcs (bk L1 s)) (by first | rfl | go_simp) (own_only_nil HOw.out HBX.out) (some ⟨W.heap.size, 0, none⟩) 1 1 (Tm.cs ⟨key, a⟩) (by first | rfl | go_simp) HNW.out (by intro e; cases e) (.inr ⟨_, _, rfl⟩) (by omega) (by unfold maxLen; omega) (Nat.zero_le _) ?_
              intro v4 w4 hv4 hg4 hb4
              refine hK _ _ (AnyW.any _ _) ?_
              clear hK K
              try simp only [Act.put, List.setIfInBounds_toArray, List.set_cons_zero, List.set_cons_succ]
              have HO4 : Hid (Only (vs1.getD s nilv).ownBlock.toList W w4) := hid ((HBX.out.more (by simp)).of_grown hg4 (fun k hk => .inl (by rw [HV.out, hk]; simp)))
              have HV4 := hid hv4
              have HB4 : Hid (v4.ownBlock = (vs1.getD s nilv).ownBlock ∨ ∀ b, v4.ownBlock = some b → W.heap.size ≤ b) := hid (by rw [HV.out]; rcases hb4 with h | h; exact .inl h; exact .inr (fun b hb => by rw [h] at hb; injection hb with hb; have := HBX.out.size; omega))
              obtain ⟨g5, cap5, rfl⟩ : ∃ g5 cap5, v4 = .slice (some ⟨g5, 0, none⟩) (nn + 1) cap5 := (hv4.2).elim (fun h => absurd h.2 (by omega)) (fun ⟨g5, cap5, cur, hv, _⟩ => ⟨g5, cap5, hv⟩)
              clear hv4 hg4 hb4
              refine rgn.Walk.ys (v := ?_) rfl rfl rfl ?_ ?_
              rotate_left 1
              · intro W' hW'
                go_simp
                try with_reducible rfl
              try simp only [Act.put, List.setIfInBounds_toArray, List.set_cons_zero, List.set_cons_succ]
              refine rgn.Walk.es ?_
              refine rgn.stepE rfl rfl (fun K hK => ?_)
              have qq : World.cell? w4 ⟨g, s, none⟩ = some (vs1.getD s nilv) := (by rw [(OB4.out w4 HO4.out).cell s]; simp [Wh, List.getElem?_append_left hsl.out, hsl.out])
              have ff := (OB4.out w4 HO4.out).frozen s
              go_simp
              refine hK _ _ (AnyW.any _ _) ?_
              clear hK K qq ff
              try simp only [Act.put, List.setIfInBounds_toArray, List.set_cons_zero, List.set_cons_succ]
              refine rgn.Walk.zs (NoPanic.normal ?_)
              have HF3 := hid (WV.add H1W.out hs64 HS.out HO4.out (by rw [HNN.out]; exact HV4.out) HB4.out)
              clear HO4 HV4 HB4 HNW HBX
              obtain ⟨W3, hW3⟩ : ∃ W3, W3 = w4.setCell ⟨g, s, none⟩ (.slice (some ⟨g5, 0, none⟩) (nn + 1) cap5) := ⟨_, rfl⟩
              rw [← hW3] at HF3
              first | rw [← hW3] | simp only [← hW3]
              clear hW3
              have cn := HF3.out.1.cellN
              have fn := HF3.out.1.ob.frozen 64
              go_wp2
              go_ret
              exact ⟨rInt HE.out.symm, HFin.out _ _ HF3.out⟩
            · refine rgn.stepE rfl rfl (fun K hK => ?_)
              go_simp
              refine hK _ _ (AnyW.any _ _) ?_
              clear hK K
              try simp only [Act.put, List.setIfInBounds_toArray, List.set_cons_zero, List.set_cons_succ]
              have HNW : Hid (RdS (W.alloc (.cells #[.int .i64 key, .int .i64 a] 55)) (some ⟨W.heap.size, 0, none⟩) 1 2 (Tm.cs ⟨key, a⟩)) := hid (ROne.out W)
              have HBX := hid (HBX.out.alloc (.cells #[.int .i64 key, .int .i64 a] 55))
              refine rgn.Walk.es ?_
              refine rgn.stepE rfl rfl (fun K hK => ?_)
              have qq : World.cell? _ ⟨g, s, none⟩ = some (.slice A nn c) := HBX.out.keep c0
              go_simp
              refine hK _ _ (AnyW.any _ _) ?_
              clear hK K qq
              try simp only [Act.put, List.setIfInBounds_toArray, List.set_cons_zero, List.set_cons_succ]
              refine rgn.Walk.es ?_
              refine rgn.stepE rfl rfl (fun K hK => ?_)
              refine opAppS _ rfl (.tmp 37) (.tmp 41) _ rfl tmElemS 0 (.slice A nn c) nn (tcs (bk L1 s)) (by first | rfl | go_simp) (own_only_nil HOw.out HBX.out) (some ⟨W.heap.size, 0, none⟩) 1 1 (Tm.cs ⟨key, a⟩) (by first | rfl | go_simp) HNW.out (by intro e; cases e) (.inr ⟨_, _, rfl⟩) (by omega) (by unfold maxLen; omega) (Nat.zero_le _) ?_
              intro v4 w4 hv4 hg4 hb4
              refine hK _ _ (AnyW.any _ _) ?_
              clear hK K
              try simp only [Act.put, List.setIfInBounds_toArray, List.set_cons_zero, List.set_cons_succ]
              have HO4 : Hid (Only (vs1.getD s nilv).ownBlock.toList W w4) := hid ((HBX.out.more (by simp)).of_grown hg4 (fun k hk => .inl (by rw [HV.out, hk]; simp)))
              have HV4 := hid hv4
              have HB4 : Hid (v4.ownBlock = (vs1.getD s nilv).ownBlock ∨ ∀ b, v4.ownBlock = some b → W.heap.size ≤ b) := hid (by rw [HV.out]; rcases hb4 with h | h; exact .inl h; exact .inr (fun b hb => by rw [h] at hb; injection hb with hb; have := HBX.out.size; omega))
              obtain ⟨g5, cap5, rfl⟩ : ∃ g5 cap5, v4 = .slice (some ⟨g5, 0, none⟩) (nn + 1) cap5 := (hv4.2).elim (fun h => absurd h.2 (by omega)) (fun ⟨g5, cap5, cur, hv, _⟩ => ⟨g5, cap5, hv⟩)
              clear hv4 hg4 hb4
              refine rgn.Walk.ys (v := ?_) rfl rfl rfl ?_ ?_
              rotate_left 1
              · intro W' hW'
                go_simp
                try with_reducible rfl
              try simp only [Act.put, List.setIfInBounds_toArray, List.set_cons_zero, List.set_cons_succ]
              refine rgn.Walk.es ?_
              refine rgn.stepE rfl rfl (fun K hK => ?_)
              have qq : World.cell? w4 ⟨g, s, none⟩ = some (vs1.getD s nilv) := (by rw [(OB4.out w4 HO4.out).cell s]; simp [Wh, List.getElem?_append_left hsl.out, hsl.out])
              have ff := (OB4.out w4 HO4.out).frozen s
              go_simp
              refine hK _ _ (AnyW.any _ _) ?_
              clear hK K qq ff
              try simp only [Act.put, List.setIfInBounds_toArray, List.set_cons_zero, List.set_cons_succ]
              refine rgn.Walk.zs (NoPanic.normal ?_)
              have HF3 := hid (WV.add H1W.out hs64 HS.out HO4.out (by rw [HNN.out]; exact HV4.out) HB4.out)
              clear HO4 HV4 HB4 HNW HBX
              obtain ⟨W3, hW3⟩ : ∃ W3, W3 = w4.setCell ⟨g, s, none⟩ (.slice (some ⟨g5, 0, none⟩) (nn + 1) cap5) := ⟨_, rfl⟩
              rw [← hW3] at HF3
              first | rw [← hW3] | simp only [← hW3]
              clear hW3
              have cn := HF3.out.1.cellN
              have fn := HF3.out.1.ob.frozen 64
              go_wp2
              go_ret
              exact ⟨rInt HE.out.symm, HFin.out _ _ HF3.out⟩
          · refine rgn.stepE rfl rfl (fun K hK => ?_)
            go_simp
            refine hK _ _ (AnyW.any _ _) ?_
            clear hK K
            try simp only [Act.put, List.setIfInBounds_toArray, List.set_cons_zero, List.set_cons_succ]
            have HNW : Hid (RdS (W.alloc (.cells #[.int .i64 key, .int .i64 a] 55)) (some ⟨W.heap.size, 0, none⟩) 1 2 (Tm.cs ⟨key, a⟩)) := hid (ROne.out W)
            have HBX := hid (HBX.out.alloc (.cells #[.int .i64 key, .int .i64 a] 55))
            refine rgn.Walk.es ?_
            refine rgn.stepE rfl rfl (fun K hK => ?_)
            go_simp
            refine (HSL.out _).mono ?_
            rintro x w8 ⟨rfl, rfl⟩
            refine hK _ _ (AnyW.any _ _) ?_
            clear hK K
            try simp only [Act.put, List.setIfInBounds_toArray, List.set_cons_zero, List.set_cons_succ]
            refine rgn.Walk.ys (v := ?_) rfl rfl rfl ?_ ?_
            rotate_left 1
            · intro W' hW'
              go_simp
              try with_reducible rfl
            try simp only [Act.put, List.setIfInBounds_toArray, List.set_cons_zero, List.set_cons_succ]
            refine rgn.Walk.es ?_
            refine rgn.stepE rfl rfl (fun K hK => ?_)
            have qq : World.cell? _ ⟨g, s, none⟩ = some (.slice A nn c) := HBX.out.keep c0
            go_simp
            refine hK _ _ (AnyW.any _ _) ?_
            clear hK K qq
            try simp only [Act.put, List.setIfInBounds_toArray, List.set_cons_zero, List.set_cons_succ]
            refine rgn.Walk.es ?_
            refine rgn.stepE rfl rfl (fun K hK => ?_)
            refine opAppS _ rfl (.tmp 37) (.tmp 41) _ rfl tmElemS 0 (.slice A nn c) nn (tcs (bk L1 s)) (by first | rfl | go_simp) (own_only_nil HOw.out HBX.out) (some ⟨W.heap.size, 0, none⟩) 1 1 (Tm.cs ⟨key, a⟩) (by first | rfl | go_simp) HNW.out (by intro e; cases e) (.inr ⟨_, _, rfl⟩) (by omega) (by unfold maxLen; omega) (Nat.zero_le _) ?_
            intro v4 w4 hv4 hg4 hb4
            refine hK _ _ (AnyW.any _ _) ?_
            clear hK K
            try simp only [Act.put, List.setIfInBounds_toArray, List.set_cons_zero, List.set_cons_succ]
            have HO4 : Hid (Only (vs1.getD s nilv).ownBlock.toList W w4) := hid ((HBX.out.more (by simp)).of_grown hg4 (fun k hk => .inl (by rw [HV.out, hk]; simp)))
            have HV4 := hid hv4
            have HB4 : Hid (v4.ownBlock = (vs1.getD s nilv).ownBlock ∨ ∀ b, v4.ownBlock = some b → W.heap.size ≤ b) := hid (by rw [HV.out]; rcases hb4 with h | h; exact .inl h; exact .inr (fun b hb => by rw [h] at hb; injection hb with hb; have := HBX.out.size; omega))
            obtain ⟨g5, cap5, rfl⟩ : ∃ g5 cap5, v4 = .slice (some ⟨g5, 0, none⟩) (nn + 1) cap5 := (hv4.2).elim (fun h => absurd h.2 (by omega)) (fun ⟨g5, cap5, cur, hv, _⟩ => ⟨g5, cap5, hv⟩)
            clear hv4 hg4 hb4
            refine rgn.Walk.ys (v := ?_) rfl rfl rfl ?_ ?_
            rotate_left 1
            · intro W' hW'
              go_simp
              try with_reducible rfl
            try simp only [Act.put, List.setIfInBounds_toArray, List.set_cons_zero, List.set_cons_succ]
            refine rgn.Walk.es ?_
            refine rgn.stepE rfl rfl (fun K hK => ?_)
            have qq : World.cell? w4 ⟨g, s, none⟩ = some (vs1.getD s nilv) := (by rw [(OB4.out w4 HO4.out).cell s]; simp [Wh, List.getElem?_append_left hsl.out, hsl.out])
            have ff := (OB4.out w4 HO4.out).frozen s
            go_simp
            refine hK _ _ (AnyW.any _ _) ?_
            clear hK K qq ff
            try simp only [Act.put, List.setIfInBounds_toArray, List.set_cons_zero, List.set_cons_succ]
            refine rgn.Walk.zs (NoPanic.normal ?_)
            have HF3 := hid (WV.add H1W.out hs64 HS.out HO4.out (by rw [HNN.out]; exact HV4.out) HB4.out)
            clear HO4 HV4 HB4 HNW HBX
            obtain ⟨W3, hW3⟩ : ∃ W3, W3 = w4.setCell ⟨g, s, none⟩ (.slice (some ⟨g5, 0, none⟩) (nn + 1) cap5) := ⟨_, rfl⟩
            rw [← hW3] at HF3
            first | rw [← hW3] | simp only [← hW3]
            clear hW3
            have cn := HF3.out.1.cellN
            have fn := HF3.out.1.ob.frozen 64
            go_wp2
            go_ret
            exact ⟨rInt HE.out.symm, HFin.out _ _ HF3.out⟩
        · refine rgn.stepE rfl rfl (fun K hK => ?_)
          go_simp
          refine hK _ _ (AnyW.any _ _) ?_
          clear hK K
          try simp only [Act.put, List.setIfInBounds_toArray, List.set_cons_zero, List.set_cons_succ]
          have HNW : Hid (RdS (W.alloc (.cells #[.int .i64 key, .int .i64 a] 55)) (some ⟨W.heap.size, 0, none⟩) 1 2 (Tm.cs ⟨key, a⟩)) := hid (ROne.out W)
          have HBX := hid (HBX.out.alloc (.cells #[.int .i64 key, .int .i64 a] 55))
          refine rgn.Walk.es ?_
          refine rgn.stepE rfl rfl (fun K hK => ?_)
          go_simp
          refine (HSL.out _).mono ?_
          rintro x w8 ⟨rfl, rfl⟩
          refine hK _ _ (AnyW.any _ _) ?_
          clear hK K
          try simp only [Act.put, List.setIfInBounds_toArray, List.set_cons_zero, List.set_cons_succ]
          refine rgn.Walk.es ?_
          refine rgn.stepE rfl rfl (fun K hK => ?_)
          go_simp
          refine (HSL.out _).mono ?_
          rintro x w8 ⟨rfl, rfl⟩
          refine hK _ _ (AnyW.any _ _) ?_
          clear hK K
          try simp only [Act.put, List.setIfInBounds_toArray, List.set_cons_zero, List.set_cons_succ]
          refine rgn.Walk.ys (v := ?_) rfl rfl rfl ?_ ?_
          rotate_left 1
          · intro W' hW'
            go_simp
            try with_reducible rfl
          try simp only [Act.put, List.setIfInBounds_toArray, List.set_cons_zero, List.set_cons_succ]
          refine rgn.Walk.es ?_
          refine rgn.stepE rfl rfl (fun K hK => ?_)
          have qq : World.cell? _ ⟨g, s, none⟩ = some (.slice A nn c) := HBX.out.keep c0
          go_simp
          refine hK _ _ (AnyW.any _ _) ?_
          clear hK K qq
          try simp only [Act.put, List.setIfInBounds_toArray, List.set_cons_zero, List.set_cons_succ]
          refine rgn.Walk.es ?_
          refine rgn.stepE rfl rfl (fun K hK => ?_)
          refine opAppS _ rfl (.tmp 37) (.tmp 41) _ rfl tmElemS 0 (.slice A nn c) nn (tcs (bk L1 s)) (by first | rfl | go_simp) (own_only_nil HOw.out HBX.out) (some ⟨W.heap.size, 0, none⟩) 1 1 (Tm.cs ⟨key, a⟩) (by first | rfl | go_simp) HNW.out (by intro e; cases e) (.inr ⟨_, _, rfl⟩) (by omega) (by unfold maxLen; omega) (Nat.zero_le _) ?_
          intro v4 w4 hv4 hg4 hb4
          refine hK _ _ (AnyW.any _ _) ?_
          clear hK K
          try simp only [Act.put, List.setIfInBounds_toArray, List.set_cons_zero, List.set_cons_succ]
          have HO4 : Hid (Only (vs1.getD s nilv).ownBlock.toList W w4) := hid ((HBX.out.more (by simp)).of_grown hg4 (fun k hk => .inl (by rw [HV.out, hk]; simp)))
          have HV4 := hid hv4
          have HB4 : Hid (v4.ownBlock = (vs1.getD s nilv).ownBlock ∨ ∀ b, v4.ownBlock = some b → W.heap.size ≤ b) := hid (by rw [HV.out]; rcases hb4 with h | h; exact .inl h; exact .inr (fun b hb => by rw [h] at hb; injection hb with hb; have := HBX.out.size; omega))
          obtain ⟨g5, cap5, rfl⟩ : ∃ g5 cap5, v4 = .slice (some ⟨g5, 0, none⟩) (nn + 1) cap5 := (hv4.2).elim (fun h => absurd h.2 (by omega)) (fun ⟨g5, cap5, cur, hv, _⟩ => ⟨g5, cap5, hv⟩)
          clear hv4 hg4 hb4
          refine rgn.Walk.ys (v := ?_) rfl rfl rfl ?_ ?_
          rotate_left 1
          · intro W' hW'
            go_simp
            try with_reducible rfl
          try simp only [Act.put, List.setIfInBounds_toArray, List.set_cons_zero, List.set_cons_succ]
          refine rgn.Walk.es ?_
          refine rgn.stepE rfl rfl (fun K hK => ?_)
          have qq : World.cell? w4 ⟨g, s, none⟩ = some (vs1.getD s nilv) := (by rw [(OB4.out w4 HO4.out).cell s]; simp [Wh, List.getElem?_append_left hsl.out, hsl.out])
          have ff := (OB4.out w4 HO4.out).frozen s
          go_simp
          refine hK _ _ (AnyW.any _ _) ?_
          clear hK K qq ff
          try simp only [Act.put, List.setIfInBounds_toArray, List.set_cons_zero, List.set_cons_succ]
          refine rgn.Walk.zs (NoPanic.normal ?_)
          have HF3 := hid (WV.add H1W.out hs64 HS.out HO4.out (by rw [HNN.out]; exact HV4.out) HB4.out)
          clear HO4 HV4 HB4 HNW HBX
          obtain ⟨W3, hW3⟩ : ∃ W3, W3 = w4.setCell ⟨g, s, none⟩ (.slice (some ⟨g5, 0, none⟩) (nn + 1) cap5) := ⟨_, rfl⟩
          rw [← hW3] at HF3
          first | rw [← hW3] | simp only [← hW3]
          clear hW3
          have cn := HF3.out.1.cellN
          have fn := HF3.out.1.ob.frozen 64
          go_wp2
          go_ret
          exact ⟨rInt HE.out.symm, HFin.out _ _ HF3.out⟩
end Go.Proofs.Ytnachendenodkaa.whl
