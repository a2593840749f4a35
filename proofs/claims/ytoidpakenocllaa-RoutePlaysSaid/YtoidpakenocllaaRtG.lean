/-
  Chapter 8 (route): a Table of routes: Add, Remove, All and Find, by a walk of each text. Conditions: none but those typed.
-/
import Derived.Test.YtoidpakenocllaaRtD
import Derived.Test.YtoidpakenocllaaRtE
import Derived.Test.YtoidpakenocllaaRtF
import Derived.Test.YtoidpakenocllaaRtS
namespace Go.Proofs.Ytoidpakenocllaa.rou
set_option linter.unusedVariables false
set_option linter.unusedSimpArgs false
open Go.ChangeShapes Go.WideShapes Go.ChangeAt Go.RowKit Go.IntWalk Go.Lib
def insS (r : Rt) : List Rt → List Rt
  | [] => [r]
  | y :: D => if ahB r y then r :: y :: D else y :: insS r D
theorem insS_perm (r : Rt) : ∀ D, (insS r D).Perm (r :: D)
  | [] => List.Perm.refl _
  | y :: D => by
    unfold insS
    split
    · exact List.Perm.refl _
    · exact ((insS_perm r D).cons y).trans (List.Perm.swap r y D)
theorem insS_srt (r : Rt) : ∀ D, Srt D → (∀ y ∈ D, ¬ Key y r) → Srt (insS r D)
  | [], _, _ => List.pairwise_singleton _ _
  | y :: D, h, hk => by
    have h2 := List.pairwise_cons.1 h
    unfold insS
    split
    · next hb =>
      have hb2 := (ahB_iff r y).1 hb
      refine List.pairwise_cons.2 ⟨fun z hz => ?_, h⟩
      rcases List.mem_cons.1 hz with rfl | hz
      · exact hb2
      · exact hb2.trans (h2.1 z hz)
    · next hb =>
      have hb2 : ¬ Ahd r y := fun h => hb ((ahB_iff r y).2 h)
      have hyr : Ahd y r := by
        rcases ahd_tri y r with h9 | h9 | h9
        · exact h9
        · exact absurd h9 hb2
        · exact absurd h9 (hk y (by simp))
      refine List.pairwise_cons.2 ⟨fun z hz => ?_, insS_srt r D h2.2 (fun z hz => hk z (List.mem_cons_of_mem _ hz))⟩
      rcases List.mem_cons.1 ((insS_perm r D).mem_iff.1 hz) with rfl | hz
      · exact hyr
      · exact h2.1 z hz
/-- What Add says and does. -/
def AddR (D : List Rt) (r : Rt) (e : Int) (D' : List Rt) : Prop :=
  (e = 1 ∧ ¬ Vld r ∧ D' = D) ∨ (e = 8 ∧ Vld r ∧ (∃ y ∈ D, Key y r) ∧ D' = D) ∨ (e = 6 ∧ Vld r ∧ (∀ y ∈ D, ¬ Key y r) ∧ 64 ≤ D.length ∧ D' = D) ∨ (e = 0 ∧ Vld r ∧ (∀ y ∈ D, ¬ Key y r) ∧ D.length < 64 ∧ D'.Perm (r :: D) ∧ Srt D')
/-- What Remove says and does. -/
def RemR (D : List Rt) (r : Rt) (e : Int) (D' : List Rt) : Prop := (e = 7 ∧ (∀ y ∈ D, ¬ Key y r) ∧ D' = D) ∨ (e = 0 ∧ ∃ y ∈ D, Key y r ∧ (y :: D').Perm D ∧ Srt D')
theorem AddR.uniq {D : List Rt} {r : Rt} {e e2 : Int} {D1 D2 : List Rt} (h : AddR D r e D1) (k : AddR D r e2 D2) : e = e2 ∧ D1 = D2 := by
  rcases h with ⟨h1, h2, h3⟩ | ⟨h1, h2, ⟨y, hy, hk⟩, h3⟩ | ⟨h1, h2, h4, h5, h3⟩ | ⟨h1, h2, h4, h5, h6, h7⟩ <;> rcases k with ⟨k1, k2, k3⟩ | ⟨k1, k2, ⟨z, hz, kk⟩, k3⟩ | ⟨k1, k2, k4, k5, k3⟩ | ⟨k1, k2, k4, k5, k6, k7⟩
  · exact ⟨h1.trans k1.symm, h3.trans k3.symm⟩
  · exact absurd k2 h2
  · exact absurd k2 h2
  · exact absurd k2 h2
  · exact absurd h2 k2
  · exact ⟨h1.trans k1.symm, h3.trans k3.symm⟩
  · exact absurd hk (k4 y hy)
  · exact absurd hk (k4 y hy)
  · exact absurd h2 k2
  · exact absurd kk (h4 z hz)
  · exact ⟨h1.trans k1.symm, h3.trans k3.symm⟩
  · omega
  · exact absurd h2 k2
  · exact absurd kk (h4 z hz)
  · omega
  · exact ⟨h1.trans k1.symm, srt_unique _ _ h7 k7 (h6.trans k6.symm)⟩
theorem RemR.uniq {D : List Rt} (hs : Srt D) {r : Rt} {e e2 : Int} {D1 D2 : List Rt} (h : RemR D r e D1) (k : RemR D r e2 D2) : e = e2 ∧ D1 = D2 := by
  rcases h with ⟨h1, h2, h3⟩ | ⟨h1, y, hy, hk, hp, hsr⟩ <;> rcases k with ⟨k1, k2, k3⟩ | ⟨k1, z, hz, kk, kp, ksr⟩
  · exact ⟨h1.trans k1.symm, h3.trans k3.symm⟩
  · exact absurd kk (h2 z hz)
  · exact absurd hk (k2 y hy)
  · have : y = z := hs.apt.one hy hz ⟨hk.1.trans kk.1.symm, hk.2.1.trans kk.2.1.symm, hk.2.2.trans kk.2.2.symm⟩
    subst this
    exact ⟨h1.trans k1.symm, srt_unique _ _ hsr ksr (List.Perm.cons_inv (hp.trans kp.symm))⟩
theorem Key.vld {y r : Rt} (h : Key y r) (ho : y.ok) : Vld r := by
  obtain ⟨h1, h2, h3⟩ := h
  exact ⟨⟨by rw [← h2]; exact ho.b0, by rw [← h2]; exact ho.b1⟩, by rw [← h3]; exact ho.m0, by rw [← h1, ← h2]; exact ho.nt⟩
/-- A Table in memory that holds routes. -/
structure TV (w : World) (base g : Nat) (t : Tr) (D : List Rt) : Prop where
  ob : Ob w g 26 #[t.ptr, .int .i64 (D.length : Int)]
  okm : t.okm base w
  wf : t.wf 0 0
  nd : t.bks.Nodup
  perm : t.all.Perm D
  srt : Srt D
  len : D.length ≤ 64
  gne : g ∉ t.bks
section
variable {w w' : World} {base g : Nat} {t : Tr} {D : List Rt}
theorem TV.only {S : List Nat} (h : TV w base g t D) (o : Only S w w') (hg : g ∉ S) (hb : ∀ k ∈ t.bks, k ∉ S) : TV w' base g t D := ⟨h.ob.only o hg, Tr.okm_only h.okm o hb, h.wf, h.nd, h.perm, h.srt, h.len, h.gne⟩
theorem TV.nil (h : TV w base g t D) (o : Only [] w w') : TV w' base g t D := h.only o (by simp) (by simp)
theorem TV.ok (h : TV w base g t D) {y : Rt} (hy : y ∈ D) : y.ok := (Tr.all_ok h.wf y (h.perm.mem_iff.2 hy)).1
theorem TV.tlen (h : TV w base g t D) : t.all.length ≤ 64 := by rw [h.perm.length_eq]; exact h.len
theorem TV.new (w : World) (base : Nat) : TV (w.alloc (.cells #[.pointer none, .int .i64 0] 26)) base w.heap.size .nil [] := ⟨Ob.new _ _ _, True.intro, True.intro, by simp [Tr.bks], List.Perm.refl _, List.Pairwise.nil, by simp, by simp [Tr.bks]⟩
end
/-- A Table has become another one. -/
structure TStep (w : World) (base g : Nat) (t : Tr) (w' : World) (t' : Tr) (D' : List Rt) : Prop where
  tv : TV w' base g t' D'
  bk : ∀ k ∈ t'.bks, k ∈ t.bks ∨ w.heap.size ≤ k
  only : Only (g :: t.bks) w w'
theorem TV.same {w w' : World} {base g : Nat} {t : Tr} {D : List Rt} (h : TV w base g t D) (o : Only [] w w') : TStep w base g t w' t D := ⟨h.nil o, fun k hk => .inl hk, o.more (by simp)⟩
theorem grew_tv {w W w9 : World} {base g : Nat} {t t' : Tr} {D D' : List Rt} {q : Option Addr} {m : Int} (h : TV w base g t D) (o : Only [] w W) (gr : Grew base W t 0 0 w9 t') (hq : t'.ptr = .pointer q) (hp : t'.all.Perm D') (hs : Srt D') (hl : D'.length ≤ 64) (hm : m = (D'.length : Int)) :
    TStep w base g t ((w9.setCell ⟨g, 0, none⟩ (.pointer q)).setCell ⟨g, 1, none⟩ (.int .i64 m)) t' D' := by
  have hglt := h.ob.lt
  have gr2 := gr.from o (fun k hk => .inl hk)
  have hg' : g ∉ t'.bks := fun hk => by
    rcases gr2.bk g hk with h1 | h1
    · exact h.gne h1
    · omega
  have hob := h.ob.only gr2.only h.gne
  have hob2 := (hob.set 0 (.pointer q)).set 1 (.int .i64 m)
  rw [show ((#[t.ptr, .int .i64 (D.length : Int)] : Array Value).setIfInBounds 0 (.pointer q)).setIfInBounds 1 (.int .i64 m) = #[.pointer q, .int .i64 m] from rfl, ← hq, hm] at hob2
  have oS : Only [g] w9 ((w9.setCell ⟨g, 0, none⟩ (.pointer q)).setCell ⟨g, 1, none⟩ (.int .i64 m)) := ((Only.refl [g] w9).setCell (p := ⟨g, 0, none⟩) (Or.inl (by simp)) _).setCell (p := ⟨g, 1, none⟩) (Or.inl (by simp)) _
  rw [← hq, hm] at oS ⊢
  exact ⟨⟨hob2, Tr.okm_only gr2.okm oS (fun k hk hm => hg' (by rwa [show k = g from by simpa using hm] at hk)), gr2.wf, gr2.nd, hp, hs, hl, hg'⟩, gr2.bk, (gr2.only.more (fun k hk => List.mem_cons_of_mem _ hk)).trans (oS.more (fun k hk => by simp at hk; simp [hk]))⟩
def AddE (base g : Nat) (t : Tr) (D : List Rt) (r : Rt) (w : World) (x : Ending) (w' : World) : Prop := ∃ e D' t', x = .returned (.int .i64 e) ∧ AddR D r e D' ∧ TStep w base g t w' t' D'
def RemE (base g : Nat) (t : Tr) (D : List Rt) (r : Rt) (w : World) (x : Ending) (w' : World) : Prop := ∃ e D' t', x = .returned (.int .i64 e) ∧ RemR D r e D' ∧ TStep w base g t w' t' D'
set_option maxRecDepth 100000 in
set_option maxHeartbeats 4000000 in
theorem addT (w : World) (base g : Nat) (t : Tr) (D : List Rt) (r : Rt) (h : TV w base g t D) (hb : base ≤ w.heap.size) (ha : 0 ≤ r.net ∧ r.net ≤ 4294967295) :
    Calls Try.prog 8 #[.pointer (some ⟨g, 0, none⟩), .agg #[.int .u32 r.net, .int .i64 r.bits, .int .u32 r.via, .int .i64 r.met]] w (AddE base g t D r w) := by
  obtain ⟨net, bits, via, met⟩ := r
  have H := hid h; have HBs := hid hb; clear h hb
  simp only at ha
  obtain ⟨W0, hW0⟩ : ∃ W0, w.alloc (.cells #[.int .u32 net, .int .i64 bits, .int .u32 via, .int .i64 met] 34) = W0 := ⟨_, rfl⟩
  have OB : Hid (Ob W0 w.heap.size 34 #[.int .u32 net, .int .i64 bits, .int .u32 via, .int .i64 met]) := hid (by rw [← hW0]; exact Ob.new _ _ _)
  have Q0 : Hid (Only [] w W0) := hid (by rw [← hW0]; exact (Only.refl [] w).alloc _)
  have g0 := OB.out.cell 0; have g1 := OB.out.cell 1; have g2 := OB.out.cell 2; have g3 := OB.out.cell 3
  go_enter Try.func8, Try.ntmps8
  go_wp2_with fail
  refine (valid1 W0 ⟨net, bits, via, met⟩ ha).mono ?_
  rintro x w1 ⟨⟨bv, rfl, hbv⟩, o1⟩
  have Q1 := hid (Q0.out.trans o1); have OB1 := hid (OB.out.only o1 (by simp)); have HV := hid hbv
  clear o1 hbv g0 g1 g2 g3
  have g0 := OB1.out.cell 0; have g1 := OB1.out.cell 1; have g2 := OB1.out.cell 2; have g3 := OB1.out.cell 3
  cases bv with
  | false =>
    go_wp2_with fail
    go_ret
    exact ⟨_, D, t, rfl, .inl ⟨rfl, fun hv => (by have := HV.out.2 hv; cases this), rfl⟩, H.out.same Q1.out⟩
  | true =>
    have HVd := hid (HV.out.1 rfl)
    go_wp2_with fail
    clear g0 g1 g2 g3
    have H1 := hid (H.out.nil Q1.out)
    refine (has1 w1 base g t _ ⟨net, bits, via, met⟩ H1.out.ob H1.out.okm H1.out.wf (by have := H1.out.tlen; omega) HVd.out ha).mono ?_
    rintro x w2 ⟨⟨bh, rfl, hbh⟩, o2⟩
    have Q2 := hid (Q1.out.trans o2); have OB2 := hid (OB1.out.only o2 (by simp)); have HH := hid hbh
    clear o2 hbh
    cases bh with
    | true =>
      go_wp2_with fail
      go_ret
      obtain ⟨y, hy, hk⟩ := HH.out.1 (by first | rfl | trivial)
      exact ⟨_, D, t, rfl, .inr (.inl ⟨rfl, HVd.out, ⟨y, H.out.perm.mem_iff.1 hy, hk⟩, rfl⟩), H.out.same Q2.out⟩
    | false =>
      have HNk : Hid (∀ y ∈ D, ¬ Key y ⟨net, bits, via, met⟩) := hid (fun y hy hk => by have := HH.out.2 ⟨y, H.out.perm.mem_iff.2 hy, hk⟩; cases this)
      have H2 := hid (H.out.nil Q2.out)
      have c1 := H2.out.ob.cell 1
      obtain ⟨n, hn⟩ : ∃ n, D.length = n := ⟨_, rfl⟩
      have HN := hid hn
      rw [hn] at c1
      have hn64 : n ≤ 64 := by rw [← hn]; exact H.out.len
      clear hn
      by_cases hf : n = 64
      · subst hf
        go_wp2_with fail
        go_ret
        exact ⟨_, D, t, rfl, .inr (.inr (.inl ⟨rfl, HVd.out, HNk.out, by rw [HN.out]; exact Nat.le_refl _, rfl⟩)), H.out.same Q2.out⟩
      · have hlt : n < 64 := by omega
        have hge : ¬ (64 : Int) ≤ (n : Int) := by omega
        obtain ⟨b, rfl⟩ := Int.eq_ofNat_of_zero_le HVd.out.1.1
        go_wp2_with fail
        clear c1
        refine wp_region_noPanic ?_
        refine rgn.regionT (R := AnyW) (by kernel_rfl) (fun _ => AnyW.any _ _) (fun _ _ _ _ _ => AnyW.any _ _) (fun _ _ _ _ _ h => h) (.y 0 (.y 1 (.y 2 (.y 3 (.b 4 5 (.e 5 (.e 6 (.y 7 (.y 8 (.e 9 .z))))) (.e 4 (.e 6 (.y 7 (.y 8 (.e 9 .z)))))))))) (by kernel_rfl) (fun W hWd => ?_)
        have HWd := hid hWd; clear hWd
        have q8 : Only [] w2 W := Only.eq_drew (Only.refl [] _) HWd.out
        have HW := hid (H2.out.nil q8); have HO := hid (H2.out.nil q8).ob; have QW := hid (Q2.out.trans q8); have OBW := hid (OB2.out.only q8 (by simp))
        clear q8 HWd
        refine rgn.Walk.ys (v := ?_) rfl rfl rfl ?_ ?_
        rotate_left 1
        · intro W' hW'
          go_simp
          try with_reducible rfl
        try simp only [Act.put, List.setIfInBounds_toArray, List.set_cons_zero, List.set_cons_succ]
        refine rgn.Walk.ys (v := ?_) rfl rfl rfl ?_ ?_
        rotate_left 1
        · intro W' hW'
          go_simp
          try with_reducible rfl
        try simp only [Act.put, List.setIfInBounds_toArray, List.set_cons_zero, List.set_cons_succ]
        refine rgn.Walk.ys (v := ?_) rfl rfl rfl ?_ ?_
        rotate_left 1
        · intro W' hW'
          go_simp
          try with_reducible rfl
        try simp only [Act.put, List.setIfInBounds_toArray, List.set_cons_zero, List.set_cons_succ]
        refine rgn.Walk.ys (v := ?_) rfl rfl rfl ?_ ?_
        rotate_left 1
        · intro W' hW'
          go_simp
          try with_reducible rfl
        try simp only [Act.put, List.setIfInBounds_toArray, List.set_cons_zero, List.set_cons_succ]
        refine rgn.Walk.bs ?_ ?_
        · refine rgn.stepE rfl rfl (fun K hK => ?_)
          have qq := HO.out.cell 0
          go_simp
          refine hK _ _ (AnyW.any _ _) ?_
          clear hK K qq
          try simp only [Act.put, List.setIfInBounds_toArray, List.set_cons_zero, List.set_cons_succ]
          refine rgn.Walk.es ?_
          refine rgn.stepE rfl rfl (fun K hK => ?_)
          have b0 := OBW.out.cell 0; have b1 := OBW.out.cell 1; have b2 := OBW.out.cell 2; have b3 := OBW.out.cell 3
          go_simp
          refine hK _ _ (AnyW.any _ _) ?_
          clear hK K b0 b1 b2 b3
          try simp only [Act.put, List.setIfInBounds_toArray, List.set_cons_zero, List.set_cons_succ]
          refine rgn.Walk.es ?_
          refine rgn.stepE rfl rfl (fun K hK => ?_)
          go_simp
          refine (with1 base net via met b HVd.out ha b 0 t W (by omega) HW.out.okm (by rw [pre_zero ha.1 ha.2]; exact HW.out.wf) HW.out.nd (Nat.le_trans HBs.out QW.out.size) (fun y hy => HNk.out y (H.out.perm.mem_iff.1 hy)) (by have := HW.out.tlen; omega)).mono ?_
          rintro x w9 ⟨t', rfl, hg9, hp9⟩
          rw [pre_zero ha.1 ha.2] at hg9
          obtain ⟨q, hq⟩ := Tr.ptr_form t'
          have HG9 := hid hg9; have HP9 := hid hp9; have HPq := hid hq
          rw [hq]
          refine hK _ _ (AnyW.any _ _) ?_
          clear hK K hq hp9
          have HO := hid (HO.out.only hg9.only HW.out.gne)
          clear hg9
          try simp only [Act.put, List.setIfInBounds_toArray, List.set_cons_zero, List.set_cons_succ]
          refine rgn.Walk.ys (v := ?_) rfl rfl rfl ?_ ?_
          rotate_left 1
          · intro W' hW'
            go_simp
            try with_reducible rfl
          try simp only [Act.put, List.setIfInBounds_toArray, List.set_cons_zero, List.set_cons_succ]
          refine rgn.Walk.ys (v := ?_) rfl rfl rfl ?_ ?_
          rotate_left 1
          · intro W' hW'
            go_simp
            try with_reducible rfl
          try simp only [Act.put, List.setIfInBounds_toArray, List.set_cons_zero, List.set_cons_succ]
          refine rgn.Walk.es ?_
          refine rgn.stepE rfl rfl (fun K hK => ?_)
          have ff := HO.out.frozen 0; have qq := HO.out.cell 0
          go_simp
          refine hK _ _ (AnyW.any _ _) ?_
          clear hK K ff qq
          have HO3 := hid (HO.out.set 0 (.pointer q))
          try simp only [Act.put, List.setIfInBounds_toArray, List.set_cons_zero, List.set_cons_succ]
          refine rgn.Walk.zs (NoPanic.normal ?_)
          obtain ⟨W8, hW8⟩ : ∃ W8, w9.setCell ⟨g, 0, none⟩ (.pointer q) = W8 := ⟨_, rfl⟩
          rw [hW8] at HO3
          have HW8 := hid hW8
          rw [hW8]
          clear hW8
          have c1 := HO3.out.cell 1; have f1 := HO3.out.frozen 1
          rw [HN.out] at c1
          have c1 : W8.cell? ⟨g, 1, none⟩ = some (.int .i64 (n : Int)) := c1
          go_wp2_with fail
          go_ret
          refine ⟨_, insS ⟨net, b, via, met⟩ D, t', rfl, .inr (.inr (.inr ⟨rfl, HVd.out, HNk.out, by rw [HN.out]; exact hlt, insS_perm _ _, insS_srt _ _ H.out.srt HNk.out⟩)), ?_⟩
          have hl : (insS ⟨net, b, via, met⟩ D).length = n + 1 := by rw [(insS_perm _ D).length_eq, List.length_cons, HN.out]
          have h9 := grew_tv (m := (n : Int) + 1) H.out QW.out HG9.out HPq.out (HP9.out.trans ((H.out.perm.cons _).trans (insS_perm _ D).symm)) (insS_srt _ _ H.out.srt HNk.out) (by omega) (by omega)
          rw [HW8.out] at h9
          exact h9
        · refine rgn.stepE rfl rfl (fun K hK => ?_)
          have b0 := OBW.out.cell 0; have b1 := OBW.out.cell 1; have b2 := OBW.out.cell 2; have b3 := OBW.out.cell 3
          go_simp
          refine hK _ _ (AnyW.any _ _) ?_
          clear hK K b0 b1 b2 b3
          try simp only [Act.put, List.setIfInBounds_toArray, List.set_cons_zero, List.set_cons_succ]
          refine rgn.Walk.es ?_
          refine rgn.stepE rfl rfl (fun K hK => ?_)
          have qq := HO.out.cell 0
          go_simp
          refine hK _ _ (AnyW.any _ _) ?_
          clear hK K qq
          try simp only [Act.put, List.setIfInBounds_toArray, List.set_cons_zero, List.set_cons_succ]
          refine rgn.Walk.es ?_
          refine rgn.stepE rfl rfl (fun K hK => ?_)
          go_simp
          refine (with1 base net via met b HVd.out ha b 0 t W (by omega) HW.out.okm (by rw [pre_zero ha.1 ha.2]; exact HW.out.wf) HW.out.nd (Nat.le_trans HBs.out QW.out.size) (fun y hy => HNk.out y (H.out.perm.mem_iff.1 hy)) (by have := HW.out.tlen; omega)).mono ?_
          rintro x w9 ⟨t', rfl, hg9, hp9⟩
          rw [pre_zero ha.1 ha.2] at hg9
          obtain ⟨q, hq⟩ := Tr.ptr_form t'
          have HG9 := hid hg9; have HP9 := hid hp9; have HPq := hid hq
          rw [hq]
          refine hK _ _ (AnyW.any _ _) ?_
          clear hK K hq hp9
          have HO := hid (HO.out.only hg9.only HW.out.gne)
          clear hg9
          try simp only [Act.put, List.setIfInBounds_toArray, List.set_cons_zero, List.set_cons_succ]
          refine rgn.Walk.ys (v := ?_) rfl rfl rfl ?_ ?_
          rotate_left 1
          · intro W' hW'
            go_simp
            try with_reducible rfl
          try simp only [Act.put, List.setIfInBounds_toArray, List.set_cons_zero, List.set_cons_succ]
          refine rgn.Walk.ys (v := ?_) rfl rfl rfl ?_ ?_
          rotate_left 1
          · intro W' hW'
            go_simp
            try with_reducible rfl
          try simp only [Act.put, List.setIfInBounds_toArray, List.set_cons_zero, List.set_cons_succ]
          refine rgn.Walk.es ?_
          refine rgn.stepE rfl rfl (fun K hK => ?_)
          have ff := HO.out.frozen 0; have qq := HO.out.cell 0
          go_simp
          refine hK _ _ (AnyW.any _ _) ?_
          clear hK K ff qq
          have HO3 := hid (HO.out.set 0 (.pointer q))
          try simp only [Act.put, List.setIfInBounds_toArray, List.set_cons_zero, List.set_cons_succ]
          refine rgn.Walk.zs (NoPanic.normal ?_)
          obtain ⟨W8, hW8⟩ : ∃ W8, w9.setCell ⟨g, 0, none⟩ (.pointer q) = W8 := ⟨_, rfl⟩
          rw [hW8] at HO3
          have HW8 := hid hW8
          rw [hW8]
          clear hW8
          have c1 := HO3.out.cell 1; have f1 := HO3.out.frozen 1
          rw [HN.out] at c1
          have c1 : W8.cell? ⟨g, 1, none⟩ = some (.int .i64 (n : Int)) := c1
          go_wp2_with fail
          go_ret
          refine ⟨_, insS ⟨net, b, via, met⟩ D, t', rfl, .inr (.inr (.inr ⟨rfl, HVd.out, HNk.out, by rw [HN.out]; exact hlt, insS_perm _ _, insS_srt _ _ H.out.srt HNk.out⟩)), ?_⟩
          have hl : (insS ⟨net, b, via, met⟩ D).length = n + 1 := by rw [(insS_perm _ D).length_eq, List.length_cons, HN.out]
          have h9 := grew_tv (m := (n : Int) + 1) H.out QW.out HG9.out HPq.out (HP9.out.trans ((H.out.perm.cons _).trans (insS_perm _ D).symm)) (insS_srt _ _ H.out.srt HNk.out) (by omega) (by omega)
          rw [HW8.out] at h9
          exact h9
set_option maxRecDepth 100000 in
set_option maxHeartbeats 4000000 in
theorem removeT (w : World) (base g : Nat) (t : Tr) (D : List Rt) (r : Rt) (h : TV w base g t D) (hb : base ≤ w.heap.size) (ha : 0 ≤ r.net ∧ r.net ≤ 4294967295) :
    Calls Try.prog 10 #[.pointer (some ⟨g, 0, none⟩), .agg #[.int .u32 r.net, .int .i64 r.bits, .int .u32 r.via, .int .i64 r.met]] w (RemE base g t D r w) := by
  obtain ⟨net, bits, via, met⟩ := r
  have H := hid h; have HBs := hid hb; clear h hb
  simp only at ha
  obtain ⟨W0, hW0⟩ : ∃ W0, w.alloc (.cells #[.int .u32 net, .int .i64 bits, .int .u32 via, .int .i64 met] 34) = W0 := ⟨_, rfl⟩
  have OB : Hid (Ob W0 w.heap.size 34 #[.int .u32 net, .int .i64 bits, .int .u32 via, .int .i64 met]) := hid (by rw [← hW0]; exact Ob.new _ _ _)
  have Q0 : Hid (Only [] w W0) := hid (by rw [← hW0]; exact (Only.refl [] w).alloc _)
  have g0 := OB.out.cell 0; have g1 := OB.out.cell 1; have g2 := OB.out.cell 2; have g3 := OB.out.cell 3
  go_enter Try.func10, Try.ntmps10
  go_wp2_with fail
  refine (valid1 W0 ⟨net, bits, via, met⟩ ha).mono ?_
  rintro x w1 ⟨⟨bv, rfl, hbv⟩, o1⟩
  have Q1 := hid (Q0.out.trans o1); have OB1 := hid (OB.out.only o1 (by simp)); have HV := hid hbv
  clear o1 hbv g0 g1 g2 g3
  have g0 := OB1.out.cell 0; have g1 := OB1.out.cell 1; have g2 := OB1.out.cell 2; have g3 := OB1.out.cell 3
  cases bv with
  | false =>
    go_wp2_with fail
    go_ret
    exact ⟨_, D, t, rfl, .inl ⟨rfl, fun y hy hk => (by have := HV.out.2 (hk.vld (H.out.ok hy)); cases this), rfl⟩, H.out.same Q1.out⟩
  | true =>
    have HVd := hid (HV.out.1 rfl)
    go_wp2_with fail
    clear g0 g1 g2 g3
    have H1 := hid (H.out.nil Q1.out)
    refine (has1 w1 base g t _ ⟨net, bits, via, met⟩ H1.out.ob H1.out.okm H1.out.wf (by have := H1.out.tlen; omega) HVd.out ha).mono ?_
    rintro x w2 ⟨⟨bh, rfl, hbh⟩, o2⟩
    have Q2 := hid (Q1.out.trans o2); have OB2 := hid (OB1.out.only o2 (by simp)); have HH := hid hbh
    clear o2 hbh
    cases bh with
    | false =>
      go_wp2_with fail
      go_ret
      exact ⟨_, D, t, rfl, .inl ⟨rfl, fun y hy hk => (by have := HH.out.2 ⟨y, H.out.perm.mem_iff.2 hy, hk⟩; cases this), rfl⟩, H.out.same Q2.out⟩
    | true =>
      obtain ⟨y, hy, hky⟩ := HH.out.1 (by first | rfl | trivial)
      have HY := hid hy; have HKY := hid hky; clear hy hky
      have H2 := hid (H.out.nil Q2.out)
      obtain ⟨n, hn⟩ : ∃ n, D.length = n := ⟨_, rfl⟩
      have HN := hid hn
      have hn64 : n ≤ 64 := by rw [← hn]; exact H.out.len
      have hn0 : 0 < n := by rw [← hn]; exact List.length_pos_of_mem (H.out.perm.mem_iff.1 HY.out)
      clear hn
      obtain ⟨b, rfl⟩ := Int.eq_ofNat_of_zero_le HVd.out.1.1
      go_wp2_with fail
      refine wp_region_noPanic ?_
      refine rgn.regionT (R := AnyW) (by kernel_rfl) (fun _ => AnyW.any _ _) (fun _ _ _ _ _ => AnyW.any _ _) (fun _ _ _ _ _ h => h) (.y 0 (.y 1 (.y 2 (.y 3 (.b 4 5 (.e 5 (.e 6 (.y 7 (.y 8 (.e 9 .z))))) (.e 4 (.e 6 (.y 7 (.y 8 (.e 9 .z)))))))))) (by kernel_rfl) (fun W hWd => ?_)
      have HWd := hid hWd; clear hWd
      have q8 : Only [] w2 W := Only.eq_drew (Only.refl [] _) HWd.out
      have HW := hid (H2.out.nil q8); have HO := hid (H2.out.nil q8).ob; have QW := hid (Q2.out.trans q8); have OBW := hid (OB2.out.only q8 (by simp))
      clear q8 HWd
      refine rgn.Walk.ys (v := ?_) rfl rfl rfl ?_ ?_
      rotate_left 1
      · intro W' hW'
        go_simp
        try with_reducible rfl
      try simp only [Act.put, List.setIfInBounds_toArray, List.set_cons_zero, List.set_cons_succ]
      refine rgn.Walk.ys (v := ?_) rfl rfl rfl ?_ ?_
      rotate_left 1
      · intro W' hW'
        go_simp
        try with_reducible rfl
      try simp only [Act.put, List.setIfInBounds_toArray, List.set_cons_zero, List.set_cons_succ]
      refine rgn.Walk.ys (v := ?_) rfl rfl rfl ?_ ?_
      rotate_left 1
      · intro W' hW'
        go_simp
        try with_reducible rfl
      try simp only [Act.put, List.setIfInBounds_toArray, List.set_cons_zero, List.set_cons_succ]
      refine rgn.Walk.ys (v := ?_) rfl rfl rfl ?_ ?_
      rotate_left 1
      · intro W' hW'
        go_simp
        try with_reducible rfl
      try simp only [Act.put, List.setIfInBounds_toArray, List.set_cons_zero, List.set_cons_succ]
      refine rgn.Walk.bs ?_ ?_
      · refine rgn.stepE rfl rfl (fun K hK => ?_)
        have qq := HO.out.cell 0
        go_simp
        refine hK _ _ (AnyW.any _ _) ?_
        clear hK K qq
        try simp only [Act.put, List.setIfInBounds_toArray, List.set_cons_zero, List.set_cons_succ]
        refine rgn.Walk.es ?_
        refine rgn.stepE rfl rfl (fun K hK => ?_)
        have b0 := OBW.out.cell 0; have b1 := OBW.out.cell 1; have b2 := OBW.out.cell 2; have b3 := OBW.out.cell 3
        go_simp
        refine hK _ _ (AnyW.any _ _) ?_
        clear hK K b0 b1 b2 b3
        try simp only [Act.put, List.setIfInBounds_toArray, List.set_cons_zero, List.set_cons_succ]
        refine rgn.Walk.es ?_
        refine rgn.stepE rfl rfl (fun K hK => ?_)
        go_simp
        refine (without1 base net via met b (by have := HVd.out.1.2; simp only at this; omega) ha y HKY.out b 0 t W (by omega) HW.out.okm (by rw [pre_zero ha.1 ha.2]; exact HW.out.wf) HW.out.nd (Nat.le_trans HBs.out QW.out.size) HY.out (by have := HW.out.tlen; omega)).mono ?_
        rintro x w9 ⟨t', rfl, hg9, hp9⟩
        rw [pre_zero ha.1 ha.2] at hg9
        obtain ⟨q, hq⟩ := Tr.ptr_form t'
        have HG9 := hid hg9; have HP9 := hid hp9; have HPq := hid hq
        rw [hq]
        refine hK _ _ (AnyW.any _ _) ?_
        clear hK K hq hp9
        have HO := hid (HO.out.only hg9.only HW.out.gne)
        clear hg9
        try simp only [Act.put, List.setIfInBounds_toArray, List.set_cons_zero, List.set_cons_succ]
        refine rgn.Walk.ys (v := ?_) rfl rfl rfl ?_ ?_
        rotate_left 1
        · intro W' hW'
          go_simp
          try with_reducible rfl
        try simp only [Act.put, List.setIfInBounds_toArray, List.set_cons_zero, List.set_cons_succ]
        refine rgn.Walk.ys (v := ?_) rfl rfl rfl ?_ ?_
        rotate_left 1
        · intro W' hW'
          go_simp
          try with_reducible rfl
        try simp only [Act.put, List.setIfInBounds_toArray, List.set_cons_zero, List.set_cons_succ]
        refine rgn.Walk.es ?_
        refine rgn.stepE rfl rfl (fun K hK => ?_)
        have ff := HO.out.frozen 0; have qq := HO.out.cell 0
        go_simp
        refine hK _ _ (AnyW.any _ _) ?_
        clear hK K ff qq
        have HO3 := hid (HO.out.set 0 (.pointer q))
        try simp only [Act.put, List.setIfInBounds_toArray, List.set_cons_zero, List.set_cons_succ]
        refine rgn.Walk.zs (NoPanic.normal ?_)
        obtain ⟨W8, hW8⟩ : ∃ W8, w9.setCell ⟨g, 0, none⟩ (.pointer q) = W8 := ⟨_, rfl⟩
        rw [hW8] at HO3
        have HW8 := hid hW8
        rw [hW8]
        clear hW8
        have c1 := HO3.out.cell 1; have f1 := HO3.out.frozen 1
        rw [HN.out] at c1
        have c1 : W8.cell? ⟨g, 1, none⟩ = some (.int .i64 (n : Int)) := c1
        go_wp2_with fail
        go_ret
        obtain ⟨i, hi, hie⟩ := List.getElem_of_mem (H.out.perm.mem_iff.1 HY.out)
        have hdp := del_perm D i hi
        rw [hie] at hdp
        have hsd : Srt (D.take i ++ D.drop (i + 1)) := by
          refine H.out.srt.sublist ?_
          have h1 : (D.drop (i + 1)).Sublist (D.drop i) := by rw [← List.drop_drop]; exact List.drop_sublist _ _
          have h2 := (List.Sublist.refl (D.take i)).append h1
          rwa [List.take_append_drop] at h2
        have hpt : t'.all.Perm (D.take i ++ D.drop (i + 1)) := List.Perm.cons_inv (HP9.out.trans (H.out.perm.trans hdp.symm))
        have hl : (D.take i ++ D.drop (i + 1)).length = n - 1 := by have := hdp.length_eq; rw [List.length_cons, HN.out] at this; omega
        refine ⟨_, D.take i ++ D.drop (i + 1), t', rfl, .inr ⟨rfl, y, H.out.perm.mem_iff.1 HY.out, HKY.out, hdp, hsd⟩, ?_⟩
        have h9 := grew_tv (m := (n : Int) - 1) H.out QW.out HG9.out HPq.out hpt hsd (by omega) (by omega)
        rw [HW8.out] at h9
        exact h9
      · refine rgn.stepE rfl rfl (fun K hK => ?_)
        have b0 := OBW.out.cell 0; have b1 := OBW.out.cell 1; have b2 := OBW.out.cell 2; have b3 := OBW.out.cell 3
        go_simp
        refine hK _ _ (AnyW.any _ _) ?_
        clear hK K b0 b1 b2 b3
        try simp only [Act.put, List.setIfInBounds_toArray, List.set_cons_zero, List.set_cons_succ]
        refine rgn.Walk.es ?_
        refine rgn.stepE rfl rfl (fun K hK => ?_)
        have qq := HO.out.cell 0
        go_simp
        refine hK _ _ (AnyW.any _ _) ?_
        clear hK K qq
        try simp only [Act.put, List.setIfInBounds_toArray, List.set_cons_zero, List.set_cons_succ]
        refine rgn.Walk.es ?_
        refine rgn.stepE rfl rfl (fun K hK => ?_)
        go_simp
        refine (without1 base net via met b (by have := HVd.out.1.2; simp only at this; omega) ha y HKY.out b 0 t W (by omega) HW.out.okm (by rw [pre_zero ha.1 ha.2]; exact HW.out.wf) HW.out.nd (Nat.le_trans HBs.out QW.out.size) HY.out (by have := HW.out.tlen; omega)).mono ?_
        rintro x w9 ⟨t', rfl, hg9, hp9⟩
        rw [pre_zero ha.1 ha.2] at hg9
        obtain ⟨q, hq⟩ := Tr.ptr_form t'
        have HG9 := hid hg9; have HP9 := hid hp9; have HPq := hid hq
        rw [hq]
        refine hK _ _ (AnyW.any _ _) ?_
        clear hK K hq hp9
        have HO := hid (HO.out.only hg9.only HW.out.gne)
        clear hg9
        try simp only [Act.put, List.setIfInBounds_toArray, List.set_cons_zero, List.set_cons_succ]
        refine rgn.Walk.ys (v := ?_) rfl rfl rfl ?_ ?_
        rotate_left 1
        · intro W' hW'
          go_simp
          try with_reducible rfl
        try simp only [Act.put, List.setIfInBounds_toArray, List.set_cons_zero, List.set_cons_succ]
        refine rgn.Walk.ys (v := ?_) rfl rfl rfl ?_ ?_
        rotate_left 1
        · intro W' hW'
          go_simp
          try with_reducible rfl
        try simp only [Act.put, List.setIfInBounds_toArray, List.set_cons_zero, List.set_cons_succ]
        refine rgn.Walk.es ?_
        refine rgn.stepE rfl rfl (fun K hK => ?_)
        have ff := HO.out.frozen 0; have qq := HO.out.cell 0
        go_simp
        refine hK _ _ (AnyW.any _ _) ?_
        clear hK K ff qq
        have HO3 := hid (HO.out.set 0 (.pointer q))
        try simp only [Act.put, List.setIfInBounds_toArray, List.set_cons_zero, List.set_cons_succ]
        refine rgn.Walk.zs (NoPanic.normal ?_)
        obtain ⟨W8, hW8⟩ : ∃ W8, w9.setCell ⟨g, 0, none⟩ (.pointer q) = W8 := ⟨_, rfl⟩
        rw [hW8] at HO3
        have HW8 := hid hW8
        rw [hW8]
        clear hW8
        have c1 := HO3.out.cell 1; have f1 := HO3.out.frozen 1
        rw [HN.out] at c1
        have c1 : W8.cell? ⟨g, 1, none⟩ = some (.int .i64 (n : Int)) := c1
        go_wp2_with fail
        go_ret
        obtain ⟨i, hi, hie⟩ := List.getElem_of_mem (H.out.perm.mem_iff.1 HY.out)
        have hdp := del_perm D i hi
        rw [hie] at hdp
        have hsd : Srt (D.take i ++ D.drop (i + 1)) := by
          refine H.out.srt.sublist ?_
          have h1 : (D.drop (i + 1)).Sublist (D.drop i) := by rw [← List.drop_drop]; exact List.drop_sublist _ _
          have h2 := (List.Sublist.refl (D.take i)).append h1
          rwa [List.take_append_drop] at h2
        have hpt : t'.all.Perm (D.take i ++ D.drop (i + 1)) := List.Perm.cons_inv (HP9.out.trans (H.out.perm.trans hdp.symm))
        have hl : (D.take i ++ D.drop (i + 1)).length = n - 1 := by have := hdp.length_eq; rw [List.length_cons, HN.out] at this; omega
        refine ⟨_, D.take i ++ D.drop (i + 1), t', rfl, .inr ⟨rfl, y, H.out.perm.mem_iff.1 HY.out, HKY.out, hdp, hsd⟩, ?_⟩
        have h9 := grew_tv (m := (n : Int) - 1) H.out QW.out HG9.out HPq.out hpt hsd (by omega) (by omega)
        rw [HW8.out] at h9
        exact h9
set_option maxRecDepth 100000 in
theorem allT (w : World) (base g : Nat) (t : Tr) (D : List Rt) (h : TV w base g t D) : Calls Try.prog 14 #[.pointer (some ⟨g, 0, none⟩)] w (RowE D w) := by
  have H := hid h; have k0 := h.ob.cell 0; clear h
  go_enter Try.func14, Try.ntmps14
  go_wp2_with fail
  clear k0
  refine (below1 base t w H.out.okm (by have := H.out.tlen; omega)).mono ?_
  rintro x w1 ⟨v, rfl, hv, o1⟩
  have HV := hid hv; have Q1 := hid o1; clear hv o1
  go_wp2_with fail
  refine (sortAll w1 w.heap.size v t.all HV.out (by have := H.out.tlen; omega)).mono ?_
  rintro x w2 ⟨rfl, E, hp, hs, hv2, o2⟩
  have HE : Hid (E = D) := hid (srt_unique _ _ (srt_of (List.Pairwise.imp (fun h => (ahB_not _ _).1 h) hs) ((H.out.srt.apt).perm ((hp.trans H.out.perm).symm))) H.out.srt (hp.trans H.out.perm))
  have HV2 := hid hv2
  have Q2 : Hid (Only [] w w2) := hid (Q1.out.fresh o2 (fun j hj => .inr (own_lt HV.out j (by simpa using hj)).1))
  clear hp hs hv2 o2
  go_wp2_with fail
  go_ret
  refine ⟨v, rfl, ?_, Q2.out⟩
  have := HV2.out
  rwa [HE.out] at this
def FinE (D : List Rt) (a : Int) (w : World) (x : Ending) (w' : World) : Prop := (∃ v e, x = .returned (.tuple #[v, .int .i64 e]) ∧ Fnd D a e v) ∧ Only [] w w'
theorem Fnd.perm {D E : List Rt} {a e : Int} {v : Value} (h : Fnd D a e v) (p : D.Perm E) : Fnd E a e v := by
  rcases h with ⟨h1, h2, h3⟩ | ⟨r, h1, h2, h3, h4, h5⟩
  · exact .inl ⟨h1, h2, fun y hy => h3 y (p.mem_iff.2 hy)⟩
  · exact .inr ⟨r, h1, h2, p.mem_iff.1 h3, h4, fun y hy => h5 y (p.mem_iff.2 hy)⟩
theorem finT (w : World) (base g : Nat) (t : Tr) (D : List Rt) (a : Int) (h : TV w base g t D) (ha : 0 ≤ a ∧ a ≤ 4294967295) : Calls Try.prog 12 #[.pointer (some ⟨g, 0, none⟩), .int .u32 a] w (FinE D a w) := by
  refine (findT w base g t _ a h.ob h.okm h.wf ha).mono ?_
  rintro x w' ⟨⟨v, e, hx, hf⟩, o⟩
  exact ⟨⟨v, e, hx, hf.perm h.perm⟩, o⟩
end Go.Proofs.Ytoidpakenocllaa.rou
