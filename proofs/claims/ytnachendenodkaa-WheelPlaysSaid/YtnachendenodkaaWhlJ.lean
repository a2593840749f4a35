/-
  Chapter 3 (wheel): a wheel and the document's wheel side by side. Conditions: none but those typed.
-/
import Derived.Test.YtnachendenodkaaWhlI
namespace Go.Proofs.Ytnachendenodkaa.whl
set_option linter.unusedVariables false
set_option linter.unusedSimpArgs false
open Go.ChangeShapes Go.WideShapes Go.ChangeAt Go.RowKit Go.IntWalk Go.Lib
/-- Both wheels, made since w0. -/
structure JI (w0 w : World) (g ge : Nat) (vs : List Value) (A : Option Addr) (c : Nat) (L D : List Tm) : Prop where
  v : WV w g vs L
  d : DV w ge A c D
  o : Only [] w0 w
  lg : w0.heap.size ≤ g
  le : w0.heap.size ≤ ge
  lv : ∀ b, b ∈ blocks vs → w0.heap.size ≤ b
  la : ∀ b off, A = some ⟨b, off, none⟩ → w0.heap.size ≤ b
  dj : ∀ b off, A = some ⟨b, off, none⟩ → b ∉ blocks vs ∧ b ≠ g
  wl : ∀ t ∈ L, (Lit.int .i64 t.k).wf = true
theorem ob_ne {w : World} {g t : Nat} {T U : TypeId} {cs ds : Array Value} (h : Ob w g T cs) (k : Ob w t U ds) (hn : T ≠ U) : g ≠ t := by
  intro e; subst e
  unfold Ob at h k
  rw [h] at k
  injection k with k; injection k with _ k
  exact hn k
theorem blk_ne {w : World} {g t : Nat} {vs : List Value} {C : Nat → List Tm} {n : Int} {T : TypeId} {cs : Array Value} (h : WR w g vs C n) (k : Ob w t T cs) (hn : T ≠ TW) : t ∉ blocks vs := fun hm => by
  obtain ⟨s, hs, e⟩ := mem_blocks hm
  have ho := h.own s (by rw [← h.n64]; exact hs)
  rcases ho.2 with ⟨hv, _⟩ | ⟨b, cap, cur, hv, _, hh, _⟩
  · rw [hv] at e; cases e
  · rw [hv] at e
    have : b = t := by simpa [Value.ownBlock] using e
    subst this
    unfold Ob at k
    rw [hh] at k
    injection k with k; injection k with _ k
    exact hn k.symm
theorem blk_lt {w : World} {g b : Nat} {vs : List Value} {C : Nat → List Tm} {n : Int} (h : WR w g vs C n) (hm : b ∈ blocks vs) : b < w.heap.size := by
  obtain ⟨s, hs, e⟩ := mem_blocks hm
  exact ((h.own s (by rw [← h.n64]; exact hs)).lt b e).2
section
variable {w0 w w' : World} {g ge : Nat} {vs : List Value} {A : Option Addr} {c : Nat} {L D : List Tm}
theorem JI.only_nil (h : JI w0 w g ge vs A c L D) (o : Only [] w w') : JI w0 w' g ge vs A c L D := ⟨h.v.only_nil o, h.d.only_nil o, h.o.trans o, h.lg, h.le, h.lv, h.la, h.dj, h.wl⟩
theorem JI.gge (h : JI w0 w g ge vs A c L D) : g ≠ ge := ob_ne h.v.r.ob h.d.ob (by decide)
theorem JI.geb (h : JI w0 w g ge vs A c L D) : ge ∉ blocks vs := blk_ne h.v.r h.d.ob (by decide)
/-- The code's wheel takes a step. -/
theorem JI.P {L' : List Tm} (h : JI w0 w g ge vs A c L D) (n : WNext w g vs L' w') (hw : ∀ t ∈ L', (Lit.int .i64 t.k).wf = true) : (∃ vs', JI w0 w' g ge vs' A c L' D) ∧ ∀ t T cs, T ≠ TW → T ≠ 27 → Ob w t T cs → Ob w' t T cs := by
  obtain ⟨vs', h1, h2, h3⟩ := n
  have hge : ge ∉ g :: blocks vs := fun hm => by
    rcases List.mem_cons.1 hm with e | e
    · exact h.gge e.symm
    · exact h.geb e
  refine ⟨⟨vs', h1, h.d.only h3 hge (fun b off e hm => ?_), ?_, h.lg, h.le, fun b hb => ?_, h.la, fun b off e => ⟨fun hb => ?_, (h.dj b off e).2⟩, hw⟩, fun t T cs k1 k2 ho => ho.only h3 (fun hm => ?_)⟩
  · rcases List.mem_cons.1 hm with e2 | e2
    · exact (h.dj b off e).2 e2
    · exact (h.dj b off e).1 e2
  · refine h.o.fresh h3 (fun i hi => .inr ?_)
    rcases List.mem_cons.1 hi with e | e
    · rw [e]; exact h.lg
    · exact h.lv i e
  · rcases h2 b hb with e | e
    · exact h.lv b e
    · exact Nat.le_trans h.o.size e
  · rcases h2 b hb with e2 | e2
    · exact (h.dj b off e).1 e2
    · have := h.d.lt b off e; omega
  · rcases List.mem_cons.1 hm with e | e
    · exact ob_ne ho h.v.r.ob k2 e
    · exact blk_ne h.v.r ho k1 e
/-- The document's wheel takes a step. -/
theorem JI.R {D' : List Tm} (h : JI w0 w g ge vs A c L D) (n : DNext w ge A D' w') : (∃ A' c', JI w0 w' g ge vs A' c' L D') ∧ ∀ t T cs, T ≠ 31 → Ob w t T cs → Ob w' t T cs := by
  obtain ⟨A', c', h1, h2, h3⟩ := n
  refine ⟨⟨A', c', h.v.only h3 (by simpa using h.gge) (fun b hb hm => h.geb (by rw [show b = ge from by simpa using hm] at hb; exact hb)), h1, h.o.fresh h3 (fun i hi => .inr (by rw [show i = ge from by simpa using hi]; exact h.le)), h.lg, h.le, h.lv, fun b off e => ?_, fun b off e => ?_, h.wl⟩, fun t T cs k1 ho => ho.only h3 (fun hm => ob_ne ho h.d.ob k1 (by simpa using hm))⟩
  · rcases h2 b off e with ⟨o, e2⟩ | e2
    · exact h.la b o e2
    · exact Nat.le_trans h.o.size e2
  · rcases h2 b off e with ⟨o, e2⟩ | e2
    · exact h.dj b o e2
    · have hg := h.v.r.ob.lt
      exact ⟨fun hb => by have := blk_lt h.v.r hb; omega, by omega⟩
end
theorem has_perm {L D : List Tm} (p : D.Perm L) (key : Int) : has D key = has L key := by
  unfold has
  rw [Bool.eq_iff_iff, List.any_eq_true, List.any_eq_true]
  exact ⟨fun ⟨t, ht, h⟩ => ⟨t, p.subset ht, h⟩, fun ⟨t, ht, h⟩ => ⟨t, p.symm.subset ht, h⟩⟩
theorem setE_perm {L D : List Tm} (p : D.Perm L) (key a : Int) : setE D key a = setE L key a := by unfold setE; rw [has_perm p key, p.length_eq]
theorem rm_perm {L D : List Tm} (p : D.Perm L) (key : Int) : (rm D key).Perm (rm L key) := p.filter _
theorem setS_perm {L D : List Tm} (p : D.Perm L) (key a : Int) : (setS D key a).Perm (setS L key a) := by
  unfold setS
  rw [setE_perm p key a]
  split
  · exact (rm_perm p key).append_right _
  · exact p
theorem wf_setS {L : List Tm} (h : ∀ t ∈ L, (Lit.int .i64 t.k).wf = true) {key a : Int} (hk : (Lit.int .i64 key).wf = true) : ∀ t ∈ setS L key a, (Lit.int .i64 t.k).wf = true := by
  unfold setS
  split
  · intro t ht
    rcases List.mem_append.1 ht with e | e
    · exact h t (rm_not e).1
    · rw [show t = ⟨key, a⟩ from by simpa using e]; exact hk
  · exact h
end Go.Proofs.Ytnachendenodkaa.whl
