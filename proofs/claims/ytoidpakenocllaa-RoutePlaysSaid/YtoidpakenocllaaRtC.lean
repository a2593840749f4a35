/-
  Chapter 8 (route): one more route in a tree, by a walk of the program's text and an induction. Conditions: none but those typed.
-/
import Derived.Test.YtoidpakenocllaaRtB
namespace Go.Proofs.Ytoidpakenocllaa.rou
set_option linter.unusedVariables false
set_option linter.unusedSimpArgs false
open Go.ChangeShapes Go.WideShapes Go.ChangeAt Go.RowKit Go.IntWalk Go.Lib
theorem ob_ne {w : World} {a b : Nat} {T1 T2 : TypeId} {c1 c2 : Array Value} (h1 : Ob w a T1 c1) (h2 : Ob w b T2 c2) (hT : T1 ≠ T2) : a ≠ b := fun e => by
  subst e
  have h3 : some (Obj.cells c1 T1 (0, 0)) = some (Obj.cells c2 T2 (0, 0)) := Eq.trans (Eq.symm h1) h2
  injection h3 with h3
  injection h3 with _ h4
  exact hT h4
theorem ob_own {w : World} {g B sz n : Nat} {T1 T2 : TypeId} {cs : Array Value} {v : Value} {xs : List Value} (h1 : Ob w g T1 cs) (h2 : w.ownsRow B T2 sz v n xs) (hT : T1 ≠ T2) : v.ownBlock ≠ some g := fun e => by
  rcases h2.2 with ⟨hv, _⟩ | ⟨p, cap, cur, hv, _, hh, _⟩
  · rw [hv] at e; cases e
  · rw [hv] at e
    have e1 : p = g := by simpa [Value.ownBlock] using e
    subst e1
    exact ob_ne h1 hh hT rfl
namespace Tr
theorem bks_nd (b : Nat) (v : Value) (L : List Rt) (l r : Tr) (k : Nat) : k ∈ (Tr.nd b v L l r).bks ↔ k = b ∨ v.ownBlock = some k ∨ k ∈ l.bks ∨ k ∈ r.bks := by
  simp only [Tr.bks, List.mem_cons, List.mem_append, Option.mem_toList]
theorem nodup_nd (b : Nat) (v : Value) (L : List Rt) (l r : Tr) : (Tr.nd b v L l r).bks.Nodup ↔ (v.ownBlock ≠ some b ∧ b ∉ l.bks ∧ b ∉ r.bks) ∧ (∀ k, v.ownBlock = some k → k ∉ l.bks ∧ k ∉ r.bks) ∧ l.bks.Nodup ∧ r.bks.Nodup ∧ ∀ k ∈ l.bks, k ∉ r.bks := by
  have ho : (v.ownBlock.toList).Nodup := by cases v.ownBlock <;> simp
  simp only [Tr.bks, List.nodup_cons, List.nodup_append, List.mem_append, Option.mem_toList, not_or]
  constructor
  · rintro ⟨⟨h1, h2, h3⟩, _, ⟨h5, h6, h7⟩, h8⟩
    exact ⟨⟨fun e => h1 e, h2, h3⟩, fun k hk => ⟨fun h => h8 k hk k (.inl h) rfl, fun h => h8 k hk k (.inr h) rfl⟩, h5, h6, fun k hk h => h7 k hk k h rfl⟩
  · rintro ⟨⟨h1, h2, h3⟩, h4, h5, h6, h7⟩
    refine ⟨⟨fun e => h1 e, h2, h3⟩, ho, ⟨h5, h6, fun a ha c hc e => h7 a ha (e ▸ hc)⟩, fun a ha c hc e => ?_⟩
    subst e
    rcases hc with hc | hc
    · exact (h4 a ha).1 hc
    · exact (h4 a ha).2 hc
section
variable {b m : Nat} {v v' : Value} {L L' : List Rt} {l r l' r' : Tr}
theorem put_v (h : (Tr.nd b v L l r).bks.Nodup) (hv : v'.ownBlock = v.ownBlock ∨ ∀ j, v'.ownBlock = some j → m ≤ j) (hm : ∀ k ∈ (Tr.nd b v L l r).bks, k < m) : (Tr.nd b v' L' l r).bks.Nodup ∧ ∀ k ∈ (Tr.nd b v' L' l r).bks, k ∈ (Tr.nd b v L l r).bks ∨ m ≤ k := by
  have hm2 : ∀ k, (k = b ∨ v.ownBlock = some k ∨ k ∈ l.bks ∨ k ∈ r.bks) → k < m := fun k hk => hm k ((bks_nd ..).2 hk)
  rw [nodup_nd] at h ⊢
  obtain ⟨⟨h1, h2, h3⟩, h4, h5, h6, h7⟩ := h
  refine ⟨⟨⟨fun e => ?_, h2, h3⟩, fun k hk => ?_, h5, h6, h7⟩, fun k hk => ?_⟩
  · rcases hv with hv | hv
    · exact h1 (hv ▸ e)
    · have := hv _ e; have := hm2 b (.inl rfl); omega
  · rcases hv with hv | hv
    · exact h4 k (hv ▸ hk)
    · have h9 := hv _ hk
      exact ⟨fun h => by have := hm2 k (.inr (.inr (.inl h))); omega, fun h => by have := hm2 k (.inr (.inr (.inr h))); omega⟩
  · rw [bks_nd] at hk ⊢
    rcases hk with rfl | hk | hk | hk
    · exact .inl (.inl rfl)
    · rcases hv with hv | hv
      · exact .inl (.inr (.inl (hv ▸ hk)))
      · exact .inr (hv _ hk)
    · exact .inl (.inr (.inr (.inl hk)))
    · exact .inl (.inr (.inr (.inr hk)))
theorem put_l (h : (Tr.nd b v L l r).bks.Nodup) (hl : l'.bks.Nodup) (hs : ∀ k ∈ l'.bks, k ∈ l.bks ∨ m ≤ k) (hm : ∀ k ∈ (Tr.nd b v L l r).bks, k < m) : (Tr.nd b v L l' r).bks.Nodup ∧ ∀ k ∈ (Tr.nd b v L l' r).bks, k ∈ (Tr.nd b v L l r).bks ∨ m ≤ k := by
  have hm2 : ∀ k, (k = b ∨ v.ownBlock = some k ∨ k ∈ l.bks ∨ k ∈ r.bks) → k < m := fun k hk => hm k ((bks_nd ..).2 hk)
  rw [nodup_nd] at h ⊢
  obtain ⟨⟨h1, h2, h3⟩, h4, h5, h6, h7⟩ := h
  refine ⟨⟨⟨h1, fun hb => ?_, h3⟩, fun k hk => ⟨fun h => ?_, (h4 k hk).2⟩, hl, h6, fun k hk hr => ?_⟩, fun k hk => ?_⟩
  · rcases hs _ hb with h | h
    · exact h2 h
    · have := hm2 b (.inl rfl); omega
  · rcases hs _ h with h | h
    · exact (h4 k hk).1 h
    · have := hm2 k (.inr (.inl hk)); omega
  · rcases hs _ hk with h | h
    · exact h7 k h hr
    · have := hm2 k (.inr (.inr (.inr hr))); omega
  · rw [bks_nd] at hk ⊢
    rcases hk with rfl | hk | hk | hk
    · exact .inl (.inl rfl)
    · exact .inl (.inr (.inl hk))
    · rcases hs _ hk with h | h
      · exact .inl (.inr (.inr (.inl h)))
      · exact .inr h
    · exact .inl (.inr (.inr (.inr hk)))
theorem put_r (h : (Tr.nd b v L l r).bks.Nodup) (hl : r'.bks.Nodup) (hs : ∀ k ∈ r'.bks, k ∈ r.bks ∨ m ≤ k) (hm : ∀ k ∈ (Tr.nd b v L l r).bks, k < m) : (Tr.nd b v L l r').bks.Nodup ∧ ∀ k ∈ (Tr.nd b v L l r').bks, k ∈ (Tr.nd b v L l r).bks ∨ m ≤ k := by
  have hm2 : ∀ k, (k = b ∨ v.ownBlock = some k ∨ k ∈ l.bks ∨ k ∈ r.bks) → k < m := fun k hk => hm k ((bks_nd ..).2 hk)
  rw [nodup_nd] at h ⊢
  obtain ⟨⟨h1, h2, h3⟩, h4, h5, h6, h7⟩ := h
  refine ⟨⟨⟨h1, h2, fun hb => ?_⟩, fun k hk => ⟨(h4 k hk).1, fun h => ?_⟩, h5, hl, fun k hk hr => ?_⟩, fun k hk => ?_⟩
  · rcases hs _ hb with h | h
    · exact h3 h
    · have := hm2 b (.inl rfl); omega
  · rcases hs _ h with h | h
    · exact (h4 k hk).2 h
    · have := hm2 k (.inr (.inl hk)); omega
  · rcases hs _ hr with h | h
    · exact h7 k hk h
    · have := hm2 k (.inr (.inr (.inl hk))); omega
  · rw [bks_nd] at hk ⊢
    rcases hk with rfl | hk | hk | hk
    · exact .inl (.inl rfl)
    · exact .inl (.inr (.inl hk))
    · exact .inl (.inr (.inr (.inl hk)))
    · rcases hs _ hk with h | h
      · exact .inl (.inr (.inr (.inr h)))
      · exact .inr h
end
theorem ptr_form (t : Tr) : ∃ q, t.ptr = .pointer q := by cases t <;> exact ⟨_, rfl⟩
end Tr
/-- What a tree has become. -/
structure Grew (base : Nat) (w : World) (t : Tr) (d : Nat) (p : Int) (w' : World) (t' : Tr) : Prop where
  okm : t'.okm base w'
  wf : t'.wf d p
  nd : t'.bks.Nodup
  bk : ∀ k ∈ t'.bks, k ∈ t.bks ∨ w.heap.size ≤ k
  only : Only t.bks w w'
theorem Grew.from {base : Nat} {w w1 w' : World} {t T t' : Tr} {d : Nat} {p : Int} (h : Grew base w1 T d p w' t') (o : Only [] w w1) (hb : ∀ k ∈ T.bks, k ∈ t.bks ∨ w.heap.size ≤ k) : Grew base w t d p w' t' :=
  ⟨h.okm, h.wf, h.nd, fun k hk => by
    rcases h.bk k hk with h1 | h1
    · exact hb k h1
    · exact .inr (Nat.le_trans o.size h1), (o.more (by simp)).fresh h.only hb⟩
def WithE (base : Nat) (t : Tr) (r : Rt) (d : Nat) (w : World) (x : Ending) (w' : World) : Prop := ∃ t', x = .returned (Tr.ptr t') ∧ Grew base w t d (pre r.net d) w' t' ∧ t'.all.Perm (r :: t.all)
/-- One more route in the node itself. -/
theorem grew_here {base nb : Nat} {v v' : Value} {L : List Rt} {l rr : Tr} {w w7 : World} {net via met : Int} {b : Nat} (hr : Vld ⟨net, b, via, met⟩) (hm : (Tr.nd nb v L l rr).okm base w) (hw : (Tr.nd nb v L l rr).wf b (pre net b)) (hn : (Tr.nd nb v L l rr).bks.Nodup) (ha : ∀ y ∈ (Tr.nd nb v L l rr).all, ¬ Key y ⟨net, b, via, met⟩)
    (o7 : Only v.ownBlock.toList w w7) (hv : w7.ownsRow base 34 4 v' (L.length + 1) (rws Rt.enc (insL L (spot L met) ⟨net, b, via, met⟩))) (hb : v'.ownBlock = v.ownBlock ∨ ∀ j, v'.ownBlock = some j → w.heap.size ≤ j) :
    Grew base w (Tr.nd nb v L l rr) b (pre net b) (w7.setCell ⟨nb, 2, none⟩ v') (Tr.nd nb v' (insL L (spot L met) ⟨net, b, via, met⟩) l rr) ∧ (Tr.nd nb v' (insL L (spot L met) ⟨net, b, via, met⟩) l rr).all.Perm (⟨net, b, via, met⟩ :: (Tr.nd nb v L l rr).all) := by
  have hlt := Tr.okm_lt hm
  obtain ⟨p1, p2⟩ := Tr.put_v (L' := insL L (spot L met) ⟨net, b, via, met⟩) hn hb (fun k hk => (hlt k hk).2)
  obtain ⟨h0, h1, h2, h3, h4⟩ := hm
  obtain ⟨⟨n1, n2, n3⟩, n4, _, _, _⟩ := (Tr.nodup_nd ..).1 hn
  have o8 : Only (nb :: v.ownBlock.toList) w (w7.setCell ⟨nb, 2, none⟩ v') := (o7.more (fun k hk => List.mem_cons_of_mem _ hk)).setCell (p := ⟨nb, 2, none⟩) (Or.inl (List.mem_cons_self ..)) _
  have hob7 := h1.only o7 (fun h => n1 (by simpa using h))
  have hnl : ∀ k ∈ l.bks, k ∉ nb :: v.ownBlock.toList := fun k hk h => by
    rcases List.mem_cons.1 h with rfl | h
    · exact n2 hk
    · exact (n4 k (by simpa using h)).1 hk
  have hnr : ∀ k ∈ rr.bks, k ∉ nb :: v.ownBlock.toList := fun k hk h => by
    rcases List.mem_cons.1 h with rfl | h
    · exact n3 hk
    · exact (n4 k (by simpa using h)).2 hk
  have hset : (#[l.ptr, rr.ptr, v].setIfInBounds 2 v') = #[l.ptr, rr.ptr, v'] := rfl
  have hob8 := hob7.set 2 v'
  rw [hset] at hob8
  have hv8 := own_only hv ((Only.refl [nb] w7).setCell (p := ⟨nb, 2, none⟩) (Or.inl (by simp)) v') (fun j hj hm => by rw [show j = nb from by simpa using hm] at hj; exact ob_own hob7 hv (by decide) hj)
  refine ⟨⟨⟨h0, hob8, by rw [insL_len]; exact hv8, Tr.okm_only h3 o8 hnl, Tr.okm_only h4 o8 hnr⟩, ?_, p1, p2, o8.more (fun k hk => (Tr.bks_nd ..).2 ?_)⟩, ?_⟩
  · obtain ⟨w0, w1, w2, w3, w4⟩ := hw
    refine ⟨w0, rise_ins w1 ⟨net, b, via, met⟩ (fun y hy e => ?_), fun x hx => ?_, w3, w4⟩
    · obtain ⟨x1, x2, x3⟩ := w2 y hy
      refine ha y (by simp only [Tr.all, List.mem_append]; exact .inl (.inl hy)) ⟨?_, x2, e⟩
      have e1 := x1.nt; have e2 := hr.2.2
      simp only at e2 ⊢
      rw [x2] at e1
      rw [show ((b : Int)).toNat = b from by omega] at e1 e2
      rw [x3] at e1
      rw [e1, ← e2]
    · rcases List.mem_cons.1 ((ins_perm L _ _).mem_iff.1 hx) with rfl | hx
      · exact ⟨hr.ok, rfl, rfl⟩
      · exact w2 x hx
  · rcases List.mem_cons.1 hk with rfl | hk
    · exact .inl rfl
    · exact .inr (.inl (by simpa using hk))
  · simp only [Tr.all]
    exact (((ins_perm L (spot L met) ⟨net, b, via, met⟩).append_right l.all).append_right rr.all)
section
variable {base nb d : Nat} {v : Value} {L : List Rt} {l rr t' : Tr} {w w9 : World} {p : Int}
/-- A child has become another one. -/
theorem grew_l (hm : (Tr.nd nb v L l rr).okm base w) (hw : (Tr.nd nb v L l rr).wf d p) (hn : (Tr.nd nb v L l rr).bks.Nodup) (g : Grew base w l (d + 1) (2 * p) w9 t') :
    Grew base w (Tr.nd nb v L l rr) d p (w9.setCell ⟨nb, 0, none⟩ t'.ptr) (Tr.nd nb v L t' rr) := by
  have hlt := Tr.okm_lt hm
  obtain ⟨p1, p2⟩ := Tr.put_l hn g.nd g.bk (fun k hk => (hlt k hk).2)
  have hlt2 : nb < w.heap.size := (hlt nb ((Tr.bks_nd ..).2 (.inl rfl))).2
  obtain ⟨h0, h1, h2, h3, h4⟩ := hm
  obtain ⟨⟨n1, n2, n3⟩, n4, n5, n6, n7⟩ := (Tr.nodup_nd ..).1 hn
  have hob9 := h1.only g.only n2
  have hob := hob9.set 0 t'.ptr
  rw [show (#[l.ptr, rr.ptr, v].setIfInBounds 0 t'.ptr) = #[t'.ptr, rr.ptr, v] from rfl] at hob
  have oS := (Only.refl [nb] w9).setCell (p := ⟨nb, 0, none⟩) (Or.inl (by simp)) t'.ptr
  have hv9 := own_only h2 g.only (fun k hk => (n4 k hk).1)
  have hv := own_only hv9 oS (fun j hj hm => by rw [show j = nb from by simpa using hm] at hj; exact n1 hj)
  have ht : ∀ k ∈ t'.bks, k ∉ [nb] := fun k hk h => by
    rw [show k = nb from by simpa using h] at hk
    rcases g.bk nb hk with h9 | h9
    · exact n2 h9
    · omega
  have hr9 := Tr.okm_only (Tr.okm_only h4 g.only (fun k hk h => n7 k h hk)) oS (fun k hk h => by rw [show k = nb from by simpa using h] at hk; exact n3 hk)
  refine ⟨⟨h0, hob, hv, Tr.okm_only g.okm oS ht, hr9⟩, ⟨hw.1, hw.2.1, hw.2.2.1, g.wf, hw.2.2.2.2⟩, p1, p2, ?_⟩
  exact ((g.only.more (fun k hk => (Tr.bks_nd ..).2 (.inr (.inr (.inl hk)))))).setCell (p := ⟨nb, 0, none⟩) (Or.inl ((Tr.bks_nd ..).2 (.inl rfl))) _
theorem grew_r (hm : (Tr.nd nb v L l rr).okm base w) (hw : (Tr.nd nb v L l rr).wf d p) (hn : (Tr.nd nb v L l rr).bks.Nodup) (g : Grew base w rr (d + 1) (2 * p + 1) w9 t') :
    Grew base w (Tr.nd nb v L l rr) d p (w9.setCell ⟨nb, 1, none⟩ t'.ptr) (Tr.nd nb v L l t') := by
  have hlt := Tr.okm_lt hm
  obtain ⟨p1, p2⟩ := Tr.put_r hn g.nd g.bk (fun k hk => (hlt k hk).2)
  have hlt2 : nb < w.heap.size := (hlt nb ((Tr.bks_nd ..).2 (.inl rfl))).2
  obtain ⟨h0, h1, h2, h3, h4⟩ := hm
  obtain ⟨⟨n1, n2, n3⟩, n4, n5, n6, n7⟩ := (Tr.nodup_nd ..).1 hn
  have hob9 := h1.only g.only n3
  have hob := hob9.set 1 t'.ptr
  rw [show (#[l.ptr, rr.ptr, v].setIfInBounds 1 t'.ptr) = #[l.ptr, t'.ptr, v] from rfl] at hob
  have oS := (Only.refl [nb] w9).setCell (p := ⟨nb, 1, none⟩) (Or.inl (by simp)) t'.ptr
  have hv9 := own_only h2 g.only (fun k hk => (n4 k hk).2)
  have hv := own_only hv9 oS (fun j hj hm => by rw [show j = nb from by simpa using hm] at hj; exact n1 hj)
  have ht : ∀ k ∈ t'.bks, k ∉ [nb] := fun k hk h => by
    rw [show k = nb from by simpa using h] at hk
    rcases g.bk nb hk with h9 | h9
    · exact n3 h9
    · omega
  have hl9 := Tr.okm_only (Tr.okm_only h3 g.only (fun k hk h => n7 k hk h)) oS (fun k hk h => by rw [show k = nb from by simpa using h] at hk; exact n2 hk)
  refine ⟨⟨h0, hob, hv, hl9, Tr.okm_only g.okm oS ht⟩, ⟨hw.1, hw.2.1, hw.2.2.1, hw.2.2.2.1, g.wf⟩, p1, p2, ?_⟩
  exact ((g.only.more (fun k hk => (Tr.bks_nd ..).2 (.inr (.inr (.inr hk)))))).setCell (p := ⟨nb, 1, none⟩) (Or.inl ((Tr.bks_nd ..).2 (.inl rfl))) _
end
set_option maxRecDepth 100000 in
set_option maxHeartbeats 8000000 in
theorem with1 (base : Nat) (net via met : Int) (b : Nat) (hr : Vld ⟨net, b, via, met⟩) (hna : 0 ≤ net ∧ net ≤ 4294967295) : ∀ (k d : Nat) (t : Tr) (w : World), d + k = b → t.okm base w → t.wf d (pre net d) → t.bks.Nodup → base ≤ w.heap.size → (∀ y ∈ t.all, ¬ Key y ⟨net, b, via, met⟩) → t.all.length ≤ 1000 →
    Calls Try.prog 20 #[t.ptr, .agg #[.int .u32 net, .int .i64 (b : Int), .int .u32 via, .int .i64 met], .int .i64 (d : Int)] w (WithE base t ⟨net, b, via, met⟩ d w) := by
  have hb32 : b ≤ 32 := by have := hr.1.2; simp only at this; omega
  intro k
  induction k with
  | zero =>
    intro d t w hd hm hw hn hbase hk hlen
    obtain rfl : b = d := by omega
    cases t with
    | nil =>
      obtain ⟨W0, hW0⟩ : ∃ W0, w.alloc (.cells #[.int .u32 net, .int .i64 (b : Int), .int .u32 via, .int .i64 met] 34) = W0 := ⟨_, rfl⟩
      have OB : Hid (Ob W0 w.heap.size 34 #[.int .u32 net, .int .i64 (b : Int), .int .u32 via, .int .i64 met]) := hid (by rw [← hW0]; exact Ob.new _ _ _)
      have Q0 : Only [] w W0 := by rw [← hW0]; exact (Only.refl [] w).alloc _
      obtain ⟨WT, hWT⟩ : ∃ WT, W0.alloc (.cells #[.pointer none, .pointer none, .slice none 0 0] 58) = WT := ⟨_, rfl⟩
      have Q1 : Only [] W0 WT := by rw [← hWT]; exact (Only.refl [] W0).alloc _
      have OB : Hid (Ob WT w.heap.size 34 #[.int .u32 net, .int .i64 (b : Int), .int .u32 via, .int .i64 met]) := hid (OB.out.only Q1 (by simp))
      have hob : Ob WT W0.heap.size 58 #[.pointer none, .pointer none, .slice none 0 0] := by rw [← hWT]; exact Ob.new _ _ _
      have HG : Hid (∀ k ∈ (Tr.nd W0.heap.size (.slice none 0 0) [] .nil .nil).bks, k ∈ Tr.nil.bks ∨ w.heap.size ≤ k) := hid (fun k hk => .inr (by rw [Tr.bks_nd] at hk; rcases hk with rfl | hk | hk | hk; exact Q0.size; cases hk; simp [Tr.bks] at hk; simp [Tr.bks] at hk))
      have HM : Hid ((Tr.nd W0.heap.size (.slice none 0 0) [] .nil .nil).okm base WT) := hid ⟨Nat.le_trans hbase Q0.size, hob, World.ownsRow_nil _ _ _ _, True.intro, True.intro⟩
      have HW : Hid ((Tr.nd W0.heap.size (.slice none 0 0) [] .nil .nil).wf b (pre net b)) := hid ⟨by omega, List.Pairwise.nil, by simp, True.intro, True.intro⟩
      have HN : Hid ((Tr.nd W0.heap.size (.slice none 0 0) [] .nil .nil).bks.Nodup) := hid (by simp [Tr.bks, Value.ownBlock])
      have HK : Hid (∀ y ∈ (Tr.nd W0.heap.size (.slice none 0 0) [] .nil .nil).all, ¬ Key y ⟨net, b, via, met⟩) := hid (by simp [Tr.all])
      have HLn : Hid ((Tr.nd W0.heap.size (.slice none 0 0) [] .nil .nil).all.length ≤ 1000) := hid (by simp [Tr.all])
      have HQ : Hid (Only [] w WT) := hid (Q0.trans Q1)
      have HBs : Hid (base ≤ WT.heap.size) := hid (Nat.le_trans hbase HQ.out.size)
      obtain ⟨nb, hnb⟩ : ∃ nb, W0.heap.size = nb := ⟨_, rfl⟩
      rw [hnb] at HM HW HN HK HLn HG hob
      have HOb : Hid (Ob WT nb 58 #[Tr.ptr .nil, Tr.ptr .nil, .slice none 0 0]) := hid hob
      have HOv := hid HM.out.2.2.1
      clear hm hw hn hk hlen Q0 Q1 hob hbase
      rw [show Tr.ptr Tr.nil = Value.pointer none from rfl]
      have g0 := OB.out.cell 0; have g1 := OB.out.cell 1; have g2 := OB.out.cell 2; have g3 := OB.out.cell 3
      go_enter Try.func20, Try.ntmps20
      go_wp2_with fail
      clear g0 g1 g2 g3
      refine (place1 WT base nb _ _ _ [] met HOb.out HOv.out HW.out.2.1 (by have := HLn.out; simp only [Tr.all, List.length_append] at this; omega)).mono ?_
      rintro x w2 ⟨rfl, o2⟩
      have HO2 := hid (HOb.out.only o2 (by simp)); have HV2 := hid (own_only_nil HOv.out o2); have OB2 := hid (OB.out.only o2 (by simp)); have Q2 := hid o2
      have HI : Hid (spot ([] : List Rt) met ≤ ([] : List Rt).length) := hid (spot_le _ _)
      obtain ⟨i, hi⟩ : ∃ i, spot ([] : List Rt) met = i := ⟨_, rfl⟩
      rw [hi] at HI ⊢
      have HSi := hid hi
      clear o2 hi
      go_wp2_with fail
      refine wp_region_noPanic ?_
      refine rgn.regionT (R := AnyW) (by kernel_rfl) (fun _ => AnyW.any _ _) (fun _ _ _ _ _ => AnyW.any _ _) (fun _ _ _ _ _ h => h) (.y 0 (.y 1 (.y 2 (.y 3 (.y 5 (.b 4 6 (.e 6 (.e 7 (.e 8 (.y 9 (.y 10 (.e 11 .z)))))) (.b 4 7 (.e 7 (.e 8 (.y 9 (.y 10 (.e 11 .z))))) (.e 4 (.e 8 (.y 9 (.y 10 (.e 11 .z)))))))))))) (by kernel_rfl) (fun W hWd => ?_)
      have HWd := hid hWd; clear hWd
      have q8 : Only [] w2 W := Only.eq_drew (Only.refl [] _) HWd.out
      have HO := hid (HO2.out.only q8 (by simp)); have HV := hid (own_only_nil HV2.out q8); have Q := hid (Q2.out.trans q8); have OB := hid (OB2.out.only q8 (by simp))
      clear HWd q8
      refine rgn.Walk.ys (v := ?_) rfl rfl rfl ?_ ?_
      rotate_left 1
      · intro W' hW'
        go_simp
        try with_reducible rfl
      try simp only [Act.put, List.setIfInBounds_toArray, List.set_cons_zero, List.set_cons_succ]
      refine rgn.Walk.ys (v := ?_) rfl rfl rfl ?_ ?_
      rotate_left 1
      · intro W' hW'
        go_simp
        try with_reducible rfl
      try simp only [Act.put, List.setIfInBounds_toArray, List.set_cons_zero, List.set_cons_succ]
      refine rgn.Walk.ys (v := ?_) rfl rfl rfl ?_ ?_
      rotate_left 1
      · intro W' hW'
        go_simp
        try with_reducible rfl
      try simp only [Act.put, List.setIfInBounds_toArray, List.set_cons_zero, List.set_cons_succ]
      refine rgn.Walk.ys (v := ?_) rfl rfl rfl ?_ ?_
      rotate_left 1
      · intro W' hW'
        go_simp
        try with_reducible rfl
      try simp only [Act.put, List.setIfInBounds_toArray, List.set_cons_zero, List.set_cons_succ]
      refine rgn.Walk.ys (v := ?_) rfl rfl rfl ?_ ?_
      rotate_left 1
      · intro W' hW'
        go_simp
        try with_reducible rfl
      try simp only [Act.put, List.setIfInBounds_toArray, List.set_cons_zero, List.set_cons_succ]
      refine rgn.Walk.bs ?_ ?_
      · refine rgn.stepE rfl rfl (fun K hK => ?_)
        have qq := HO.out.cell 2
        go_simp
        refine hK _ _ (AnyW.any _ _) ?_
        clear hK K qq
        try simp only [Act.put, List.setIfInBounds_toArray, List.set_cons_zero, List.set_cons_succ]
        refine rgn.Walk.es ?_
        refine rgn.stepE rfl rfl (fun K hK => ?_)
        have b0 := OB.out.cell 0; have b1 := OB.out.cell 1; have b2 := OB.out.cell 2; have b3 := OB.out.cell 3
        go_simp
        refine hK _ _ (AnyW.any _ _) ?_
        clear hK K b0 b1 b2 b3
        try simp only [Act.put, List.setIfInBounds_toArray, List.set_cons_zero, List.set_cons_succ]
        refine rgn.Walk.es ?_
        refine rgn.stepE rfl rfl (fun K hK => ?_)
        go_simp
        refine hK _ _ (AnyW.any _ _) ?_
        clear hK K
        have HB : Hid (Ob (W.alloc (.cells #[.int .u32 net, .int .i64 (b : Int), .int .u32 via, .int .i64 met] 34)) W.heap.size 34 (Rt.enc ⟨net, b, via, met⟩).toArray) := hid (Ob.new W 34 #[.int .u32 net, .int .i64 (b : Int), .int .u32 via, .int .i64 met])
        have HNe : Hid ((Value.slice none 0 0).ownBlock ≠ some W.heap.size) := hid (fun h => by have := (own_lt HV.out _ h).2; omega)
        have HO := hid (HO.out.alloc (.cells #[.int .u32 net, .int .i64 (b : Int), .int .u32 via, .int .i64 met] 34)); have OB := hid (OB.out.alloc (.cells #[.int .u32 net, .int .i64 (b : Int), .int .u32 via, .int .i64 met] 34)); have o6 := (Only.refl [] W).alloc (.cells #[.int .u32 net, .int .i64 (b : Int), .int .u32 via, .int .i64 met] 34); have HV := hid (own_only_nil HV.out o6); have Q := hid (Q.out.trans o6)
        clear o6
        try simp only [Act.put, List.setIfInBounds_toArray, List.set_cons_zero, List.set_cons_succ]
        refine rgn.Walk.es ?_
        refine rgn.stepE rfl rfl (fun K hK => ?_)
        go_simp
        refine (ins1 _ base _ [] i W.heap.size ⟨net, b, via, met⟩ HV.out HB.out HNe.out (Nat.le_trans HBs.out Q.out.size) HI.out (by have := HLn.out; simp only [Tr.all, List.length_append] at this; omega)).mono ?_
        rintro x w7 ⟨v7, rfl, hv7, hg7, hbk7⟩
        obtain ⟨A7, c7, e7, _, _, _, _, _, _⟩ := RdS.of_own hv7 (rws_one enc_one _)
        have HE7 := hid e7
        rw [e7]
        refine hK _ _ (AnyW.any _ _) ?_
        clear hK K e7
        have HO := hid (HO.out.grown hg7 (ob_own HO.out HV.out (by decide)))
        have HBk : Hid (v7.ownBlock = (Value.slice none 0 0).ownBlock ∨ ∀ j, v7.ownBlock = some j → WT.heap.size ≤ j) := hid (hbk7.imp id (fun h j hj => Nat.le_trans Q.out.size (h j hj)))
        have Q := hid (show Only (Value.slice none 0 0).ownBlock.toList WT w7 from (Q.out.more (by simp)).of_grown hg7 (fun j hj => .inl (by rw [hj]; simp)))
        have HV := hid hv7
        clear hv7 hg7 hbk7 HB HNe
        try simp only [Act.put, List.setIfInBounds_toArray, List.set_cons_zero, List.set_cons_succ]
        refine rgn.Walk.ys (v := ?_) rfl rfl rfl ?_ ?_
        rotate_left 1
        · intro W' hW'
          go_simp
          try with_reducible rfl
        try simp only [Act.put, List.setIfInBounds_toArray, List.set_cons_zero, List.set_cons_succ]
        refine rgn.Walk.ys (v := ?_) rfl rfl rfl ?_ ?_
        rotate_left 1
        · intro W' hW'
          go_simp
          try with_reducible rfl
        try simp only [Act.put, List.setIfInBounds_toArray, List.set_cons_zero, List.set_cons_succ]
        refine rgn.Walk.es ?_
        refine rgn.stepE rfl rfl (fun K hK => ?_)
        have ff := HO.out.frozen 2; have qq := HO.out.cell 2
        go_simp
        refine hK _ _ (AnyW.any _ _) ?_
        clear hK K ff qq
        try simp only [Act.put, List.setIfInBounds_toArray, List.set_cons_zero, List.set_cons_succ]
        refine rgn.Walk.zs (NoPanic.normal ?_)
        go_wp2_with fail
        go_ret
        have hg := grew_here hr HM.out HW.out HN.out HK.out Q.out (by rw [HSi.out]; exact HV.out) HBk.out
        rw [HE7.out] at hg
        exact ⟨_, rfl, hg.1.from HQ.out HG.out, hg.2⟩
      · refine rgn.stepE rfl rfl (fun K hK => ?_)
        have b0 := OB.out.cell 0; have b1 := OB.out.cell 1; have b2 := OB.out.cell 2; have b3 := OB.out.cell 3
        go_simp
        refine hK _ _ (AnyW.any _ _) ?_
        clear hK K b0 b1 b2 b3
        try simp only [Act.put, List.setIfInBounds_toArray, List.set_cons_zero, List.set_cons_succ]
        refine rgn.Walk.bs ?_ ?_
        · refine rgn.stepE rfl rfl (fun K hK => ?_)
          have qq := HO.out.cell 2
          go_simp
          refine hK _ _ (AnyW.any _ _) ?_
          clear hK K qq
          try simp only [Act.put, List.setIfInBounds_toArray, List.set_cons_zero, List.set_cons_succ]
          refine rgn.Walk.es ?_
          refine rgn.stepE rfl rfl (fun K hK => ?_)
          go_simp
          refine hK _ _ (AnyW.any _ _) ?_
          clear hK K
          have HB : Hid (Ob (W.alloc (.cells #[.int .u32 net, .int .i64 (b : Int), .int .u32 via, .int .i64 met] 34)) W.heap.size 34 (Rt.enc ⟨net, b, via, met⟩).toArray) := hid (Ob.new W 34 #[.int .u32 net, .int .i64 (b : Int), .int .u32 via, .int .i64 met])
          have HNe : Hid ((Value.slice none 0 0).ownBlock ≠ some W.heap.size) := hid (fun h => by have := (own_lt HV.out _ h).2; omega)
          have HO := hid (HO.out.alloc (.cells #[.int .u32 net, .int .i64 (b : Int), .int .u32 via, .int .i64 met] 34)); have OB := hid (OB.out.alloc (.cells #[.int .u32 net, .int .i64 (b : Int), .int .u32 via, .int .i64 met] 34)); have o6 := (Only.refl [] W).alloc (.cells #[.int .u32 net, .int .i64 (b : Int), .int .u32 via, .int .i64 met] 34); have HV := hid (own_only_nil HV.out o6); have Q := hid (Q.out.trans o6)
          clear o6
          try simp only [Act.put, List.setIfInBounds_toArray, List.set_cons_zero, List.set_cons_succ]
          refine rgn.Walk.es ?_
          refine rgn.stepE rfl rfl (fun K hK => ?_)
          go_simp
          refine (ins1 _ base _ [] i W.heap.size ⟨net, b, via, met⟩ HV.out HB.out HNe.out (Nat.le_trans HBs.out Q.out.size) HI.out (by have := HLn.out; simp only [Tr.all, List.length_append] at this; omega)).mono ?_
          rintro x w7 ⟨v7, rfl, hv7, hg7, hbk7⟩
          obtain ⟨A7, c7, e7, _, _, _, _, _, _⟩ := RdS.of_own hv7 (rws_one enc_one _)
          have HE7 := hid e7
          rw [e7]
          refine hK _ _ (AnyW.any _ _) ?_
          clear hK K e7
          have HO := hid (HO.out.grown hg7 (ob_own HO.out HV.out (by decide)))
          have HBk : Hid (v7.ownBlock = (Value.slice none 0 0).ownBlock ∨ ∀ j, v7.ownBlock = some j → WT.heap.size ≤ j) := hid (hbk7.imp id (fun h j hj => Nat.le_trans Q.out.size (h j hj)))
          have Q := hid (show Only (Value.slice none 0 0).ownBlock.toList WT w7 from (Q.out.more (by simp)).of_grown hg7 (fun j hj => .inl (by rw [hj]; simp)))
          have HV := hid hv7
          clear hv7 hg7 hbk7 HB HNe
          try simp only [Act.put, List.setIfInBounds_toArray, List.set_cons_zero, List.set_cons_succ]
          refine rgn.Walk.ys (v := ?_) rfl rfl rfl ?_ ?_
          rotate_left 1
          · intro W' hW'
            go_simp
            try with_reducible rfl
          try simp only [Act.put, List.setIfInBounds_toArray, List.set_cons_zero, List.set_cons_succ]
          refine rgn.Walk.ys (v := ?_) rfl rfl rfl ?_ ?_
          rotate_left 1
          · intro W' hW'
            go_simp
            try with_reducible rfl
          try simp only [Act.put, List.setIfInBounds_toArray, List.set_cons_zero, List.set_cons_succ]
          refine rgn.Walk.es ?_
          refine rgn.stepE rfl rfl (fun K hK => ?_)
          have ff := HO.out.frozen 2; have qq := HO.out.cell 2
          go_simp
          refine hK _ _ (AnyW.any _ _) ?_
          clear hK K ff qq
          try simp only [Act.put, List.setIfInBounds_toArray, List.set_cons_zero, List.set_cons_succ]
          refine rgn.Walk.zs (NoPanic.normal ?_)
          go_wp2_with fail
          go_ret
          have hg := grew_here hr HM.out HW.out HN.out HK.out Q.out (by rw [HSi.out]; exact HV.out) HBk.out
          rw [HE7.out] at hg
          exact ⟨_, rfl, hg.1.from HQ.out HG.out, hg.2⟩
        · refine rgn.stepE rfl rfl (fun K hK => ?_)
          go_simp
          refine hK _ _ (AnyW.any _ _) ?_
          clear hK K
          have HB : Hid (Ob (W.alloc (.cells #[.int .u32 net, .int .i64 (b : Int), .int .u32 via, .int .i64 met] 34)) W.heap.size 34 (Rt.enc ⟨net, b, via, met⟩).toArray) := hid (Ob.new W 34 #[.int .u32 net, .int .i64 (b : Int), .int .u32 via, .int .i64 met])
          have HNe : Hid ((Value.slice none 0 0).ownBlock ≠ some W.heap.size) := hid (fun h => by have := (own_lt HV.out _ h).2; omega)
          have HO := hid (HO.out.alloc (.cells #[.int .u32 net, .int .i64 (b : Int), .int .u32 via, .int .i64 met] 34)); have OB := hid (OB.out.alloc (.cells #[.int .u32 net, .int .i64 (b : Int), .int .u32 via, .int .i64 met] 34)); have o6 := (Only.refl [] W).alloc (.cells #[.int .u32 net, .int .i64 (b : Int), .int .u32 via, .int .i64 met] 34); have HV := hid (own_only_nil HV.out o6); have Q := hid (Q.out.trans o6)
          clear o6
          try simp only [Act.put, List.setIfInBounds_toArray, List.set_cons_zero, List.set_cons_succ]
          refine rgn.Walk.es ?_
          refine rgn.stepE rfl rfl (fun K hK => ?_)
          have qq := HO.out.cell 2
          go_simp
          refine hK _ _ (AnyW.any _ _) ?_
          clear hK K qq
          try simp only [Act.put, List.setIfInBounds_toArray, List.set_cons_zero, List.set_cons_succ]
          refine rgn.Walk.es ?_
          refine rgn.stepE rfl rfl (fun K hK => ?_)
          go_simp
          refine (ins1 _ base _ [] i W.heap.size ⟨net, b, via, met⟩ HV.out HB.out HNe.out (Nat.le_trans HBs.out Q.out.size) HI.out (by have := HLn.out; simp only [Tr.all, List.length_append] at this; omega)).mono ?_
          rintro x w7 ⟨v7, rfl, hv7, hg7, hbk7⟩
          obtain ⟨A7, c7, e7, _, _, _, _, _, _⟩ := RdS.of_own hv7 (rws_one enc_one _)
          have HE7 := hid e7
          rw [e7]
          refine hK _ _ (AnyW.any _ _) ?_
          clear hK K e7
          have HO := hid (HO.out.grown hg7 (ob_own HO.out HV.out (by decide)))
          have HBk : Hid (v7.ownBlock = (Value.slice none 0 0).ownBlock ∨ ∀ j, v7.ownBlock = some j → WT.heap.size ≤ j) := hid (hbk7.imp id (fun h j hj => Nat.le_trans Q.out.size (h j hj)))
          have Q := hid (show Only (Value.slice none 0 0).ownBlock.toList WT w7 from (Q.out.more (by simp)).of_grown hg7 (fun j hj => .inl (by rw [hj]; simp)))
          have HV := hid hv7
          clear hv7 hg7 hbk7 HB HNe
          try simp only [Act.put, List.setIfInBounds_toArray, List.set_cons_zero, List.set_cons_succ]
          refine rgn.Walk.ys (v := ?_) rfl rfl rfl ?_ ?_
          rotate_left 1
          · intro W' hW'
            go_simp
            try with_reducible rfl
          try simp only [Act.put, List.setIfInBounds_toArray, List.set_cons_zero, List.set_cons_succ]
          refine rgn.Walk.ys (v := ?_) rfl rfl rfl ?_ ?_
          rotate_left 1
          · intro W' hW'
            go_simp
            try with_reducible rfl
          try simp only [Act.put, List.setIfInBounds_toArray, List.set_cons_zero, List.set_cons_succ]
          refine rgn.Walk.es ?_
          refine rgn.stepE rfl rfl (fun K hK => ?_)
          have ff := HO.out.frozen 2; have qq := HO.out.cell 2
          go_simp
          refine hK _ _ (AnyW.any _ _) ?_
          clear hK K ff qq
          try simp only [Act.put, List.setIfInBounds_toArray, List.set_cons_zero, List.set_cons_succ]
          refine rgn.Walk.zs (NoPanic.normal ?_)
          go_wp2_with fail
          go_ret
          have hg := grew_here hr HM.out HW.out HN.out HK.out Q.out (by rw [HSi.out]; exact HV.out) HBk.out
          rw [HE7.out] at hg
          exact ⟨_, rfl, hg.1.from HQ.out HG.out, hg.2⟩
    | nd nb v L l rr =>
      obtain ⟨W0, hW0⟩ : ∃ W0, w.alloc (.cells #[.int .u32 net, .int .i64 (b : Int), .int .u32 via, .int .i64 met] 34) = W0 := ⟨_, rfl⟩
      have OB : Hid (Ob W0 w.heap.size 34 #[.int .u32 net, .int .i64 (b : Int), .int .u32 via, .int .i64 met]) := hid (by rw [← hW0]; exact Ob.new _ _ _)
      have Q0 : Only [] w W0 := by rw [← hW0]; exact (Only.refl [] w).alloc _
      obtain ⟨WT, hWT⟩ : ∃ WT, W0 = WT := ⟨_, rfl⟩
      subst hWT
      have HG : Hid (∀ k ∈ (Tr.nd nb v L l rr).bks, k ∈ (Tr.nd nb v L l rr).bks ∨ w.heap.size ≤ k) := hid (fun k hk => .inl hk)
      have HM := hid (Tr.okm_nil hm Q0); have HW := hid hw; have HN := hid hn; have HK := hid hk; have HLn := hid hlen; have HQ := hid Q0
      have HBs : Hid (base ≤ W0.heap.size) := hid (Nat.le_trans hbase Q0.size)
      have HOb := hid HM.out.2.1; have HOv := hid HM.out.2.2.1
      clear hm hw hn hk hlen Q0 hbase
      rw [show Tr.ptr (Tr.nd nb v L l rr) = Value.pointer (some ⟨nb, 0, none⟩) from rfl]
      have g0 := OB.out.cell 0; have g1 := OB.out.cell 1; have g2 := OB.out.cell 2; have g3 := OB.out.cell 3
      go_enter Try.func20, Try.ntmps20
      go_wp2_with fail
      clear g0 g1 g2 g3
      refine (place1 W0 base nb _ _ _ L met HOb.out HOv.out HW.out.2.1 (by have := HLn.out; simp only [Tr.all, List.length_append] at this; omega)).mono ?_
      rintro x w2 ⟨rfl, o2⟩
      have HO2 := hid (HOb.out.only o2 (by simp)); have HV2 := hid (own_only_nil HOv.out o2); have OB2 := hid (OB.out.only o2 (by simp)); have Q2 := hid o2
      have HI : Hid (spot L met ≤ L.length) := hid (spot_le _ _)
      obtain ⟨i, hi⟩ : ∃ i, spot L met = i := ⟨_, rfl⟩
      rw [hi] at HI ⊢
      have HSi := hid hi
      clear o2 hi
      go_wp2_with fail
      refine wp_region_noPanic ?_
      refine rgn.regionT (R := AnyW) (by kernel_rfl) (fun _ => AnyW.any _ _) (fun _ _ _ _ _ => AnyW.any _ _) (fun _ _ _ _ _ h => h) (.y 0 (.y 1 (.y 2 (.y 3 (.y 5 (.b 4 6 (.e 6 (.e 7 (.e 8 (.y 9 (.y 10 (.e 11 .z)))))) (.b 4 7 (.e 7 (.e 8 (.y 9 (.y 10 (.e 11 .z))))) (.e 4 (.e 8 (.y 9 (.y 10 (.e 11 .z)))))))))))) (by kernel_rfl) (fun W hWd => ?_)
      have HWd := hid hWd; clear hWd
      have q8 : Only [] w2 W := Only.eq_drew (Only.refl [] _) HWd.out
      have HO := hid (HO2.out.only q8 (by simp)); have HV := hid (own_only_nil HV2.out q8); have Q := hid (Q2.out.trans q8); have OB := hid (OB2.out.only q8 (by simp))
      clear HWd q8
      refine rgn.Walk.ys (v := ?_) rfl rfl rfl ?_ ?_
      rotate_left 1
      · intro W' hW'
        go_simp
        try with_reducible rfl
      try simp only [Act.put, List.setIfInBounds_toArray, List.set_cons_zero, List.set_cons_succ]
      refine rgn.Walk.ys (v := ?_) rfl rfl rfl ?_ ?_
      rotate_left 1
      · intro W' hW'
        go_simp
        try with_reducible rfl
      try simp only [Act.put, List.setIfInBounds_toArray, List.set_cons_zero, List.set_cons_succ]
      refine rgn.Walk.ys (v := ?_) rfl rfl rfl ?_ ?_
      rotate_left 1
      · intro W' hW'
        go_simp
        try with_reducible rfl
      try simp only [Act.put, List.setIfInBounds_toArray, List.set_cons_zero, List.set_cons_succ]
      refine rgn.Walk.ys (v := ?_) rfl rfl rfl ?_ ?_
      rotate_left 1
      · intro W' hW'
        go_simp
        try with_reducible rfl
      try simp only [Act.put, List.setIfInBounds_toArray, List.set_cons_zero, List.set_cons_succ]
      refine rgn.Walk.ys (v := ?_) rfl rfl rfl ?_ ?_
      rotate_left 1
      · intro W' hW'
        go_simp
        try with_reducible rfl
      try simp only [Act.put, List.setIfInBounds_toArray, List.set_cons_zero, List.set_cons_succ]
      refine rgn.Walk.bs ?_ ?_
      · refine rgn.stepE rfl rfl (fun K hK => ?_)
        have qq := HO.out.cell 2
        go_simp
        refine hK _ _ (AnyW.any _ _) ?_
        clear hK K qq
        try simp only [Act.put, List.setIfInBounds_toArray, List.set_cons_zero, List.set_cons_succ]
        refine rgn.Walk.es ?_
        refine rgn.stepE rfl rfl (fun K hK => ?_)
        have b0 := OB.out.cell 0; have b1 := OB.out.cell 1; have b2 := OB.out.cell 2; have b3 := OB.out.cell 3
        go_simp
        refine hK _ _ (AnyW.any _ _) ?_
        clear hK K b0 b1 b2 b3
        try simp only [Act.put, List.setIfInBounds_toArray, List.set_cons_zero, List.set_cons_succ]
        refine rgn.Walk.es ?_
        refine rgn.stepE rfl rfl (fun K hK => ?_)
        go_simp
        refine hK _ _ (AnyW.any _ _) ?_
        clear hK K
        have HB : Hid (Ob (W.alloc (.cells #[.int .u32 net, .int .i64 (b : Int), .int .u32 via, .int .i64 met] 34)) W.heap.size 34 (Rt.enc ⟨net, b, via, met⟩).toArray) := hid (Ob.new W 34 #[.int .u32 net, .int .i64 (b : Int), .int .u32 via, .int .i64 met])
        have HNe : Hid (v.ownBlock ≠ some W.heap.size) := hid (fun h => by have := (own_lt HV.out _ h).2; omega)
        have HO := hid (HO.out.alloc (.cells #[.int .u32 net, .int .i64 (b : Int), .int .u32 via, .int .i64 met] 34)); have OB := hid (OB.out.alloc (.cells #[.int .u32 net, .int .i64 (b : Int), .int .u32 via, .int .i64 met] 34)); have o6 := (Only.refl [] W).alloc (.cells #[.int .u32 net, .int .i64 (b : Int), .int .u32 via, .int .i64 met] 34); have HV := hid (own_only_nil HV.out o6); have Q := hid (Q.out.trans o6)
        clear o6
        try simp only [Act.put, List.setIfInBounds_toArray, List.set_cons_zero, List.set_cons_succ]
        refine rgn.Walk.es ?_
        refine rgn.stepE rfl rfl (fun K hK => ?_)
        go_simp
        refine (ins1 _ base _ L i W.heap.size ⟨net, b, via, met⟩ HV.out HB.out HNe.out (Nat.le_trans HBs.out Q.out.size) HI.out (by have := HLn.out; simp only [Tr.all, List.length_append] at this; omega)).mono ?_
        rintro x w7 ⟨v7, rfl, hv7, hg7, hbk7⟩
        obtain ⟨A7, c7, e7, _, _, _, _, _, _⟩ := RdS.of_own hv7 (rws_one enc_one _)
        have HE7 := hid e7
        rw [e7]
        refine hK _ _ (AnyW.any _ _) ?_
        clear hK K e7
        have HO := hid (HO.out.grown hg7 (ob_own HO.out HV.out (by decide)))
        have HBk : Hid (v7.ownBlock = v.ownBlock ∨ ∀ j, v7.ownBlock = some j → W0.heap.size ≤ j) := hid (hbk7.imp id (fun h j hj => Nat.le_trans Q.out.size (h j hj)))
        have Q := hid (show Only v.ownBlock.toList W0 w7 from (Q.out.more (by simp)).of_grown hg7 (fun j hj => .inl (by rw [hj]; simp)))
        have HV := hid hv7
        clear hv7 hg7 hbk7 HB HNe
        try simp only [Act.put, List.setIfInBounds_toArray, List.set_cons_zero, List.set_cons_succ]
        refine rgn.Walk.ys (v := ?_) rfl rfl rfl ?_ ?_
        rotate_left 1
        · intro W' hW'
          go_simp
          try with_reducible rfl
        try simp only [Act.put, List.setIfInBounds_toArray, List.set_cons_zero, List.set_cons_succ]
        refine rgn.Walk.ys (v := ?_) rfl rfl rfl ?_ ?_
        rotate_left 1
        · intro W' hW'
          go_simp
          try with_reducible rfl
        try simp only [Act.put, List.setIfInBounds_toArray, List.set_cons_zero, List.set_cons_succ]
        refine rgn.Walk.es ?_
        refine rgn.stepE rfl rfl (fun K hK => ?_)
        have ff := HO.out.frozen 2; have qq := HO.out.cell 2
        go_simp
        refine hK _ _ (AnyW.any _ _) ?_
        clear hK K ff qq
        try simp only [Act.put, List.setIfInBounds_toArray, List.set_cons_zero, List.set_cons_succ]
        refine rgn.Walk.zs (NoPanic.normal ?_)
        go_wp2_with fail
        go_ret
        have hg := grew_here hr HM.out HW.out HN.out HK.out Q.out (by rw [HSi.out]; exact HV.out) HBk.out
        rw [HE7.out] at hg
        exact ⟨_, rfl, hg.1.from HQ.out HG.out, hg.2⟩
      · refine rgn.stepE rfl rfl (fun K hK => ?_)
        have b0 := OB.out.cell 0; have b1 := OB.out.cell 1; have b2 := OB.out.cell 2; have b3 := OB.out.cell 3
        go_simp
        refine hK _ _ (AnyW.any _ _) ?_
        clear hK K b0 b1 b2 b3
        try simp only [Act.put, List.setIfInBounds_toArray, List.set_cons_zero, List.set_cons_succ]
        refine rgn.Walk.bs ?_ ?_
        · refine rgn.stepE rfl rfl (fun K hK => ?_)
          have qq := HO.out.cell 2
          go_simp
          refine hK _ _ (AnyW.any _ _) ?_
          clear hK K qq
          try simp only [Act.put, List.setIfInBounds_toArray, List.set_cons_zero, List.set_cons_succ]
          refine rgn.Walk.es ?_
          refine rgn.stepE rfl rfl (fun K hK => ?_)
          go_simp
          refine hK _ _ (AnyW.any _ _) ?_
          clear hK K
          have HB : Hid (Ob (W.alloc (.cells #[.int .u32 net, .int .i64 (b : Int), .int .u32 via, .int .i64 met] 34)) W.heap.size 34 (Rt.enc ⟨net, b, via, met⟩).toArray) := hid (Ob.new W 34 #[.int .u32 net, .int .i64 (b : Int), .int .u32 via, .int .i64 met])
          have HNe : Hid (v.ownBlock ≠ some W.heap.size) := hid (fun h => by have := (own_lt HV.out _ h).2; omega)
          have HO := hid (HO.out.alloc (.cells #[.int .u32 net, .int .i64 (b : Int), .int .u32 via, .int .i64 met] 34)); have OB := hid (OB.out.alloc (.cells #[.int .u32 net, .int .i64 (b : Int), .int .u32 via, .int .i64 met] 34)); have o6 := (Only.refl [] W).alloc (.cells #[.int .u32 net, .int .i64 (b : Int), .int .u32 via, .int .i64 met] 34); have HV := hid (own_only_nil HV.out o6); have Q := hid (Q.out.trans o6)
          clear o6
          try simp only [Act.put, List.setIfInBounds_toArray, List.set_cons_zero, List.set_cons_succ]
          refine rgn.Walk.es ?_
          refine rgn.stepE rfl rfl (fun K hK => ?_)
          go_simp
          refine (ins1 _ base _ L i W.heap.size ⟨net, b, via, met⟩ HV.out HB.out HNe.out (Nat.le_trans HBs.out Q.out.size) HI.out (by have := HLn.out; simp only [Tr.all, List.length_append] at this; omega)).mono ?_
          rintro x w7 ⟨v7, rfl, hv7, hg7, hbk7⟩
          obtain ⟨A7, c7, e7, _, _, _, _, _, _⟩ := RdS.of_own hv7 (rws_one enc_one _)
          have HE7 := hid e7
          rw [e7]
          refine hK _ _ (AnyW.any _ _) ?_
          clear hK K e7
          have HO := hid (HO.out.grown hg7 (ob_own HO.out HV.out (by decide)))
          have HBk : Hid (v7.ownBlock = v.ownBlock ∨ ∀ j, v7.ownBlock = some j → W0.heap.size ≤ j) := hid (hbk7.imp id (fun h j hj => Nat.le_trans Q.out.size (h j hj)))
          have Q := hid (show Only v.ownBlock.toList W0 w7 from (Q.out.more (by simp)).of_grown hg7 (fun j hj => .inl (by rw [hj]; simp)))
          have HV := hid hv7
          clear hv7 hg7 hbk7 HB HNe
          try simp only [Act.put, List.setIfInBounds_toArray, List.set_cons_zero, List.set_cons_succ]
          refine rgn.Walk.ys (v := ?_) rfl rfl rfl ?_ ?_
          rotate_left 1
          · intro W' hW'
            go_simp
            try with_reducible rfl
          try simp only [Act.put, List.setIfInBounds_toArray, List.set_cons_zero, List.set_cons_succ]
          refine rgn.Walk.ys (v := ?_) rfl rfl rfl ?_ ?_
          rotate_left 1
          · intro W' hW'
            go_simp
            try with_reducible rfl
          try simp only [Act.put, List.setIfInBounds_toArray, List.set_cons_zero, List.set_cons_succ]
          refine rgn.Walk.es ?_
          refine rgn.stepE rfl rfl (fun K hK => ?_)
          have ff := HO.out.frozen 2; have qq := HO.out.cell 2
          go_simp
          refine hK _ _ (AnyW.any _ _) ?_
          clear hK K ff qq
          try simp only [Act.put, List.setIfInBounds_toArray, List.set_cons_zero, List.set_cons_succ]
          refine rgn.Walk.zs (NoPanic.normal ?_)
          go_wp2_with fail
          go_ret
          have hg := grew_here hr HM.out HW.out HN.out HK.out Q.out (by rw [HSi.out]; exact HV.out) HBk.out
          rw [HE7.out] at hg
          exact ⟨_, rfl, hg.1.from HQ.out HG.out, hg.2⟩
        · refine rgn.stepE rfl rfl (fun K hK => ?_)
          go_simp
          refine hK _ _ (AnyW.any _ _) ?_
          clear hK K
          have HB : Hid (Ob (W.alloc (.cells #[.int .u32 net, .int .i64 (b : Int), .int .u32 via, .int .i64 met] 34)) W.heap.size 34 (Rt.enc ⟨net, b, via, met⟩).toArray) := hid (Ob.new W 34 #[.int .u32 net, .int .i64 (b : Int), .int .u32 via, .int .i64 met])
          have HNe : Hid (v.ownBlock ≠ some W.heap.size) := hid (fun h => by have := (own_lt HV.out _ h).2; omega)
          have HO := hid (HO.out.alloc (.cells #[.int .u32 net, .int .i64 (b : Int), .int .u32 via, .int .i64 met] 34)); have OB := hid (OB.out.alloc (.cells #[.int .u32 net, .int .i64 (b : Int), .int .u32 via, .int .i64 met] 34)); have o6 := (Only.refl [] W).alloc (.cells #[.int .u32 net, .int .i64 (b : Int), .int .u32 via, .int .i64 met] 34); have HV := hid (own_only_nil HV.out o6); have Q := hid (Q.out.trans o6)
          clear o6
          try simp only [Act.put, List.setIfInBounds_toArray, List.set_cons_zero, List.set_cons_succ]
          refine rgn.Walk.es ?_
          refine rgn.stepE rfl rfl (fun K hK => ?_)
          have qq := HO.out.cell 2
          go_simp
          refine hK _ _ (AnyW.any _ _) ?_
          clear hK K qq
          try simp only [Act.put, List.setIfInBounds_toArray, List.set_cons_zero, List.set_cons_succ]
          refine rgn.Walk.es ?_
          refine rgn.stepE rfl rfl (fun K hK => ?_)
          go_simp
          refine (ins1 _ base _ L i W.heap.size ⟨net, b, via, met⟩ HV.out HB.out HNe.out (Nat.le_trans HBs.out Q.out.size) HI.out (by have := HLn.out; simp only [Tr.all, List.length_append] at this; omega)).mono ?_
          rintro x w7 ⟨v7, rfl, hv7, hg7, hbk7⟩
          obtain ⟨A7, c7, e7, _, _, _, _, _, _⟩ := RdS.of_own hv7 (rws_one enc_one _)
          have HE7 := hid e7
          rw [e7]
          refine hK _ _ (AnyW.any _ _) ?_
          clear hK K e7
          have HO := hid (HO.out.grown hg7 (ob_own HO.out HV.out (by decide)))
          have HBk : Hid (v7.ownBlock = v.ownBlock ∨ ∀ j, v7.ownBlock = some j → W0.heap.size ≤ j) := hid (hbk7.imp id (fun h j hj => Nat.le_trans Q.out.size (h j hj)))
          have Q := hid (show Only v.ownBlock.toList W0 w7 from (Q.out.more (by simp)).of_grown hg7 (fun j hj => .inl (by rw [hj]; simp)))
          have HV := hid hv7
          clear hv7 hg7 hbk7 HB HNe
          try simp only [Act.put, List.setIfInBounds_toArray, List.set_cons_zero, List.set_cons_succ]
          refine rgn.Walk.ys (v := ?_) rfl rfl rfl ?_ ?_
          rotate_left 1
          · intro W' hW'
            go_simp
            try with_reducible rfl
          try simp only [Act.put, List.setIfInBounds_toArray, List.set_cons_zero, List.set_cons_succ]
          refine rgn.Walk.ys (v := ?_) rfl rfl rfl ?_ ?_
          rotate_left 1
          · intro W' hW'
            go_simp
            try with_reducible rfl
          try simp only [Act.put, List.setIfInBounds_toArray, List.set_cons_zero, List.set_cons_succ]
          refine rgn.Walk.es ?_
          refine rgn.stepE rfl rfl (fun K hK => ?_)
          have ff := HO.out.frozen 2; have qq := HO.out.cell 2
          go_simp
          refine hK _ _ (AnyW.any _ _) ?_
          clear hK K ff qq
          try simp only [Act.put, List.setIfInBounds_toArray, List.set_cons_zero, List.set_cons_succ]
          refine rgn.Walk.zs (NoPanic.normal ?_)
          go_wp2_with fail
          go_ret
          have hg := grew_here hr HM.out HW.out HN.out HK.out Q.out (by rw [HSi.out]; exact HV.out) HBk.out
          rw [HE7.out] at hg
          exact ⟨_, rfl, hg.1.from HQ.out HG.out, hg.2⟩
  | succ k ih =>
    have IH := hid ih; clear ih
    intro d t w hd hm hw hn hbase hk hlen
    cases t with
    | nil =>
      obtain ⟨W0, hW0⟩ : ∃ W0, w.alloc (.cells #[.int .u32 net, .int .i64 (b : Int), .int .u32 via, .int .i64 met] 34) = W0 := ⟨_, rfl⟩
      have OB : Hid (Ob W0 w.heap.size 34 #[.int .u32 net, .int .i64 (b : Int), .int .u32 via, .int .i64 met]) := hid (by rw [← hW0]; exact Ob.new _ _ _)
      have Q0 : Only [] w W0 := by rw [← hW0]; exact (Only.refl [] w).alloc _
      obtain ⟨WT, hWT⟩ : ∃ WT, W0.alloc (.cells #[.pointer none, .pointer none, .slice none 0 0] 58) = WT := ⟨_, rfl⟩
      have Q1 : Only [] W0 WT := by rw [← hWT]; exact (Only.refl [] W0).alloc _
      have OB : Hid (Ob WT w.heap.size 34 #[.int .u32 net, .int .i64 (b : Int), .int .u32 via, .int .i64 met]) := hid (OB.out.only Q1 (by simp))
      have hob : Ob WT W0.heap.size 58 #[.pointer none, .pointer none, .slice none 0 0] := by rw [← hWT]; exact Ob.new _ _ _
      have HG : Hid (∀ k ∈ (Tr.nd W0.heap.size (.slice none 0 0) [] .nil .nil).bks, k ∈ Tr.nil.bks ∨ w.heap.size ≤ k) := hid (fun k hk => .inr (by rw [Tr.bks_nd] at hk; rcases hk with rfl | hk | hk | hk; exact Q0.size; cases hk; simp [Tr.bks] at hk; simp [Tr.bks] at hk))
      have HM : Hid ((Tr.nd W0.heap.size (.slice none 0 0) [] .nil .nil).okm base WT) := hid ⟨Nat.le_trans hbase Q0.size, hob, World.ownsRow_nil _ _ _ _, True.intro, True.intro⟩
      have HW : Hid ((Tr.nd W0.heap.size (.slice none 0 0) [] .nil .nil).wf d (pre net d)) := hid ⟨by omega, List.Pairwise.nil, by simp, True.intro, True.intro⟩
      have HN : Hid ((Tr.nd W0.heap.size (.slice none 0 0) [] .nil .nil).bks.Nodup) := hid (by simp [Tr.bks, Value.ownBlock])
      have HK : Hid (∀ y ∈ (Tr.nd W0.heap.size (.slice none 0 0) [] .nil .nil).all, ¬ Key y ⟨net, b, via, met⟩) := hid (by simp [Tr.all])
      have HLn : Hid ((Tr.nd W0.heap.size (.slice none 0 0) [] .nil .nil).all.length ≤ 1000) := hid (by simp [Tr.all])
      have HQ : Hid (Only [] w WT) := hid (Q0.trans Q1)
      have HBs : Hid (base ≤ WT.heap.size) := hid (Nat.le_trans hbase HQ.out.size)
      obtain ⟨nb, hnb⟩ : ∃ nb, W0.heap.size = nb := ⟨_, rfl⟩
      rw [hnb] at HM HW HN HK HLn HG hob
      have HOb : Hid (Ob WT nb 58 #[Tr.ptr .nil, Tr.ptr .nil, .slice none 0 0]) := hid hob
      have HOv := hid HM.out.2.2.1
      clear hm hw hn hk hlen Q0 Q1 hob hbase
      rw [show Tr.ptr Tr.nil = Value.pointer none from rfl]
      have hd32 : d < 32 := by omega
      have hdb : ¬ (d : Int) = (b : Int) := by omega
      have HE1 : Hid (IntKind.i64.wrap ((d : Int) + 1) = ((d + 1 : Nat) : Int)) := hid (by rw [i64_in _ (by omega)]; omega)
      have g0 := OB.out.cell 0; have g1 := OB.out.cell 1; have g2 := OB.out.cell 2; have g3 := OB.out.cell 3
      go_enter Try.func20, Try.ntmps20
      go_wp2_with fail
      clear g0 g1 g2 g3
      refine (bit1 WT net d hna hd32).mono ?_
      rintro x w2 ⟨rfl, hw2⟩
      subst hw2
      rcases bt_or net d with hz | hz
      · have hz2 : (bt net d : Int) = 0 := hz
        rw [hz2]
        go_wp2_with fail
        refine wp_region_noPanic ?_
        refine rgn.regionT (R := AnyW) (by kernel_rfl) (fun _ => AnyW.any _ _) (fun _ _ _ _ _ => AnyW.any _ _) (fun _ _ _ _ _ h => h) (.y 0 (.y 1 (.y 2 (.y 3 (.y 4 (.y 5 (.y 6 (.y 9 (.y 10 (.y 12 (.y 13 (.b 7 8 (.e 8 (.e 11 (.y 14 (.e 15 .z)))) (.e 7 (.e 11 (.y 14 (.e 15 .z)))))))))))))))) (by kernel_rfl) (fun W hWd => ?_)
        have HWd := hid hWd; clear hWd
        have q8 : Only [] WT W := Only.eq_drew (Only.refl [] _) HWd.out
        have HO := hid (HOb.out.only q8 (by simp)); have Q := hid q8; have OB := hid (OB.out.only q8 (by simp)); have HMW := hid (Tr.okm_nil HM.out q8)
        have HMk : Hid (Tr.okm base W .nil) := hid HMW.out.2.2.2.1
        have HWk : Hid (Tr.wf .nil (d + 1) (pre net (d + 1))) := hid (by have := HW.out.2.2.2.1; rw [pre_succ _ hd32, hz]; first | exact this | (rw [Int.add_zero]; exact this))
        have HNd := hid ((Tr.nodup_nd ..).1 HN.out)
        have HNk : Hid ((Tr.bks .nil).Nodup) := hid HNd.out.2.2.1
        have HNn : Hid (nb ∉ Tr.bks .nil) := hid HNd.out.1.2.1
        have HKk : Hid (∀ y ∈ Tr.all .nil, ¬ Key y ⟨net, b, via, met⟩) := hid (by simp [Tr.all])
        have HLk : Hid ((Tr.all .nil).length ≤ 1000) := hid (by simp [Tr.all])
        clear HWd q8
        refine rgn.Walk.ys (v := ?_) rfl rfl rfl ?_ ?_
        rotate_left 1
        · intro W' hW'
          go_simp
          try with_reducible rfl
        try simp only [Act.put, List.setIfInBounds_toArray, List.set_cons_zero, List.set_cons_succ]
        refine rgn.Walk.ys (v := ?_) rfl rfl rfl ?_ ?_
        rotate_left 1
        · intro W' hW'
          go_simp
          try with_reducible rfl
        try simp only [Act.put, List.setIfInBounds_toArray, List.set_cons_zero, List.set_cons_succ]
        refine rgn.Walk.ys (v := ?_) rfl rfl rfl ?_ ?_
        rotate_left 1
        · intro W' hW'
          go_simp
          try with_reducible rfl
        try simp only [Act.put, List.setIfInBounds_toArray, List.set_cons_zero, List.set_cons_succ]
        refine rgn.Walk.ys (v := ?_) rfl rfl rfl ?_ ?_
        rotate_left 1
        · intro W' hW'
          go_simp
          try with_reducible rfl
        try simp only [Act.put, List.setIfInBounds_toArray, List.set_cons_zero, List.set_cons_succ]
        refine rgn.Walk.ys (v := ?_) rfl rfl rfl ?_ ?_
        rotate_left 1
        · intro W' hW'
          go_simp
          try with_reducible rfl
        try simp only [Act.put, List.setIfInBounds_toArray, List.set_cons_zero, List.set_cons_succ]
        refine rgn.Walk.ys (v := ?_) rfl rfl rfl ?_ ?_
        rotate_left 1
        · intro W' hW'
          go_simp
          try with_reducible rfl
        try simp only [Act.put, List.setIfInBounds_toArray, List.set_cons_zero, List.set_cons_succ]
        refine rgn.Walk.ys (v := ?_) rfl rfl rfl ?_ ?_
        rotate_left 1
        · intro W' hW'
          go_simp
          try with_reducible rfl
        try simp only [Act.put, List.setIfInBounds_toArray, List.set_cons_zero, List.set_cons_succ]
        refine rgn.Walk.ys (v := ?_) rfl rfl rfl ?_ ?_
        rotate_left 1
        · intro W' hW'
          go_simp
          try with_reducible rfl
        try simp only [Act.put, List.setIfInBounds_toArray, List.set_cons_zero, List.set_cons_succ]
        refine rgn.Walk.ys (v := ?_) rfl rfl rfl ?_ ?_
        rotate_left 1
        · intro W' hW'
          go_simp
          try with_reducible rfl
        try simp only [Act.put, List.setIfInBounds_toArray, List.set_cons_zero, List.set_cons_succ]
        refine rgn.Walk.ys (v := ?_) rfl rfl rfl ?_ ?_
        rotate_left 1
        · intro W' hW'
          go_simp
          try with_reducible rfl
        try simp only [Act.put, List.setIfInBounds_toArray, List.set_cons_zero, List.set_cons_succ]
        refine rgn.Walk.ys (v := ?_) rfl rfl rfl ?_ ?_
        rotate_left 1
        · intro W' hW'
          go_simp
          try with_reducible rfl
        try simp only [Act.put, List.setIfInBounds_toArray, List.set_cons_zero, List.set_cons_succ]
        refine rgn.Walk.bs ?_ ?_
        · refine rgn.stepE rfl rfl (fun K hK => ?_)
          have qq := HO.out.cell 0
          go_simp
          refine hK _ _ (AnyW.any _ _) ?_
          clear hK K qq
          try simp only [Act.put, List.setIfInBounds_toArray, List.set_cons_zero, List.set_cons_succ]
          refine rgn.Walk.es ?_
          refine rgn.stepE rfl rfl (fun K hK => ?_)
          have b0 := OB.out.cell 0; have b1 := OB.out.cell 1; have b2 := OB.out.cell 2; have b3 := OB.out.cell 3
          go_simp
          refine hK _ _ (AnyW.any _ _) ?_
          clear hK K b0 b1 b2 b3
          try simp only [Act.put, List.setIfInBounds_toArray, List.set_cons_zero, List.set_cons_succ]
          refine rgn.Walk.es ?_
          refine rgn.stepE rfl rfl (fun K hK => ?_)
          go_simp
          rw [HE1.out]
          refine (IH.out (d + 1) .nil W (by omega) HMk.out HWk.out HNk.out (Nat.le_trans HBs.out Q.out.size) HKk.out HLk.out).mono ?_
          rintro x w9 ⟨t', rfl, hg9, hp9⟩
          obtain ⟨q, hq⟩ := Tr.ptr_form t'
          have HG9 := hid hg9; have HP9 := hid hp9; have HPq := hid hq
          rw [hq]
          refine hK _ _ (AnyW.any _ _) ?_
          clear hK K hq hp9
          have HO := hid (HO.out.only hg9.only HNn.out)
          clear hg9
          try simp only [Act.put, List.setIfInBounds_toArray, List.set_cons_zero, List.set_cons_succ]
          refine rgn.Walk.ys (v := ?_) rfl rfl rfl ?_ ?_
          rotate_left 1
          · intro W' hW'
            go_simp
            try with_reducible rfl
          try simp only [Act.put, List.setIfInBounds_toArray, List.set_cons_zero, List.set_cons_succ]
          refine rgn.Walk.es ?_
          refine rgn.stepE rfl rfl (fun K hK => ?_)
          have ff := HO.out.frozen 0; have qq := HO.out.cell 0
          go_simp
          refine hK _ _ (AnyW.any _ _) ?_
          clear hK K ff qq
          try simp only [Act.put, List.setIfInBounds_toArray, List.set_cons_zero, List.set_cons_succ]
          refine rgn.Walk.zs (NoPanic.normal ?_)
          go_wp2_with fail
          go_ret
          have hg := grew_l HMW.out HW.out HN.out (p := pre net d) (by have := HG9.out; rw [pre_succ _ hd32, hz] at this; first | exact this | (rw [Int.add_zero] at this; exact this))
          rw [HPq.out] at hg
          refine ⟨_, rfl, (hg.from Q.out (fun k hk => .inl hk)).from HQ.out HG.out, ?_⟩
          simpa [Tr.all] using HP9.out
        · refine rgn.stepE rfl rfl (fun K hK => ?_)
          have b0 := OB.out.cell 0; have b1 := OB.out.cell 1; have b2 := OB.out.cell 2; have b3 := OB.out.cell 3
          go_simp
          refine hK _ _ (AnyW.any _ _) ?_
          clear hK K b0 b1 b2 b3
          try simp only [Act.put, List.setIfInBounds_toArray, List.set_cons_zero, List.set_cons_succ]
          refine rgn.Walk.es ?_
          refine rgn.stepE rfl rfl (fun K hK => ?_)
          have qq := HO.out.cell 0
          go_simp
          refine hK _ _ (AnyW.any _ _) ?_
          clear hK K qq
          try simp only [Act.put, List.setIfInBounds_toArray, List.set_cons_zero, List.set_cons_succ]
          refine rgn.Walk.es ?_
          refine rgn.stepE rfl rfl (fun K hK => ?_)
          go_simp
          rw [HE1.out]
          refine (IH.out (d + 1) .nil W (by omega) HMk.out HWk.out HNk.out (Nat.le_trans HBs.out Q.out.size) HKk.out HLk.out).mono ?_
          rintro x w9 ⟨t', rfl, hg9, hp9⟩
          obtain ⟨q, hq⟩ := Tr.ptr_form t'
          have HG9 := hid hg9; have HP9 := hid hp9; have HPq := hid hq
          rw [hq]
          refine hK _ _ (AnyW.any _ _) ?_
          clear hK K hq hp9
          have HO := hid (HO.out.only hg9.only HNn.out)
          clear hg9
          try simp only [Act.put, List.setIfInBounds_toArray, List.set_cons_zero, List.set_cons_succ]
          refine rgn.Walk.ys (v := ?_) rfl rfl rfl ?_ ?_
          rotate_left 1
          · intro W' hW'
            go_simp
            try with_reducible rfl
          try simp only [Act.put, List.setIfInBounds_toArray, List.set_cons_zero, List.set_cons_succ]
          refine rgn.Walk.es ?_
          refine rgn.stepE rfl rfl (fun K hK => ?_)
          have ff := HO.out.frozen 0; have qq := HO.out.cell 0
          go_simp
          refine hK _ _ (AnyW.any _ _) ?_
          clear hK K ff qq
          try simp only [Act.put, List.setIfInBounds_toArray, List.set_cons_zero, List.set_cons_succ]
          refine rgn.Walk.zs (NoPanic.normal ?_)
          go_wp2_with fail
          go_ret
          have hg := grew_l HMW.out HW.out HN.out (p := pre net d) (by have := HG9.out; rw [pre_succ _ hd32, hz] at this; first | exact this | (rw [Int.add_zero] at this; exact this))
          rw [HPq.out] at hg
          refine ⟨_, rfl, (hg.from Q.out (fun k hk => .inl hk)).from HQ.out HG.out, ?_⟩
          simpa [Tr.all] using HP9.out
      · have hz2 : (bt net d : Int) = 1 := hz
        rw [hz2]
        go_wp2_with fail
        refine wp_region_noPanic ?_
        refine rgn.regionT (R := AnyW) (by kernel_rfl) (fun _ => AnyW.any _ _) (fun _ _ _ _ _ => AnyW.any _ _) (fun _ _ _ _ _ h => h) (.y 0 (.y 1 (.y 2 (.y 3 (.y 4 (.y 5 (.y 6 (.y 9 (.y 10 (.y 12 (.y 13 (.b 7 8 (.e 8 (.e 11 (.y 14 (.e 15 .z)))) (.e 7 (.e 11 (.y 14 (.e 15 .z)))))))))))))))) (by kernel_rfl) (fun W hWd => ?_)
        have HWd := hid hWd; clear hWd
        have q8 : Only [] WT W := Only.eq_drew (Only.refl [] _) HWd.out
        have HO := hid (HOb.out.only q8 (by simp)); have Q := hid q8; have OB := hid (OB.out.only q8 (by simp)); have HMW := hid (Tr.okm_nil HM.out q8)
        have HMk : Hid (Tr.okm base W .nil) := hid HMW.out.2.2.2.2
        have HWk : Hid (Tr.wf .nil (d + 1) (pre net (d + 1))) := hid (by have := HW.out.2.2.2.2; rw [pre_succ _ hd32, hz]; first | exact this | (rw [Int.add_zero]; exact this))
        have HNd := hid ((Tr.nodup_nd ..).1 HN.out)
        have HNk : Hid ((Tr.bks .nil).Nodup) := hid HNd.out.2.2.2.1
        have HNn : Hid (nb ∉ Tr.bks .nil) := hid HNd.out.1.2.2
        have HKk : Hid (∀ y ∈ Tr.all .nil, ¬ Key y ⟨net, b, via, met⟩) := hid (by simp [Tr.all])
        have HLk : Hid ((Tr.all .nil).length ≤ 1000) := hid (by simp [Tr.all])
        clear HWd q8
        refine rgn.Walk.ys (v := ?_) rfl rfl rfl ?_ ?_
        rotate_left 1
        · intro W' hW'
          go_simp
          try with_reducible rfl
        try simp only [Act.put, List.setIfInBounds_toArray, List.set_cons_zero, List.set_cons_succ]
        refine rgn.Walk.ys (v := ?_) rfl rfl rfl ?_ ?_
        rotate_left 1
        · intro W' hW'
          go_simp
          try with_reducible rfl
        try simp only [Act.put, List.setIfInBounds_toArray, List.set_cons_zero, List.set_cons_succ]
        refine rgn.Walk.ys (v := ?_) rfl rfl rfl ?_ ?_
        rotate_left 1
        · intro W' hW'
          go_simp
          try with_reducible rfl
        try simp only [Act.put, List.setIfInBounds_toArray, List.set_cons_zero, List.set_cons_succ]
        refine rgn.Walk.ys (v := ?_) rfl rfl rfl ?_ ?_
        rotate_left 1
        · intro W' hW'
          go_simp
          try with_reducible rfl
        try simp only [Act.put, List.setIfInBounds_toArray, List.set_cons_zero, List.set_cons_succ]
        refine rgn.Walk.ys (v := ?_) rfl rfl rfl ?_ ?_
        rotate_left 1
        · intro W' hW'
          go_simp
          try with_reducible rfl
        try simp only [Act.put, List.setIfInBounds_toArray, List.set_cons_zero, List.set_cons_succ]
        refine rgn.Walk.ys (v := ?_) rfl rfl rfl ?_ ?_
        rotate_left 1
        · intro W' hW'
          go_simp
          try with_reducible rfl
        try simp only [Act.put, List.setIfInBounds_toArray, List.set_cons_zero, List.set_cons_succ]
        refine rgn.Walk.ys (v := ?_) rfl rfl rfl ?_ ?_
        rotate_left 1
        · intro W' hW'
          go_simp
          try with_reducible rfl
        try simp only [Act.put, List.setIfInBounds_toArray, List.set_cons_zero, List.set_cons_succ]
        refine rgn.Walk.ys (v := ?_) rfl rfl rfl ?_ ?_
        rotate_left 1
        · intro W' hW'
          go_simp
          try with_reducible rfl
        try simp only [Act.put, List.setIfInBounds_toArray, List.set_cons_zero, List.set_cons_succ]
        refine rgn.Walk.ys (v := ?_) rfl rfl rfl ?_ ?_
        rotate_left 1
        · intro W' hW'
          go_simp
          try with_reducible rfl
        try simp only [Act.put, List.setIfInBounds_toArray, List.set_cons_zero, List.set_cons_succ]
        refine rgn.Walk.ys (v := ?_) rfl rfl rfl ?_ ?_
        rotate_left 1
        · intro W' hW'
          go_simp
          try with_reducible rfl
        try simp only [Act.put, List.setIfInBounds_toArray, List.set_cons_zero, List.set_cons_succ]
        refine rgn.Walk.ys (v := ?_) rfl rfl rfl ?_ ?_
        rotate_left 1
        · intro W' hW'
          go_simp
          try with_reducible rfl
        try simp only [Act.put, List.setIfInBounds_toArray, List.set_cons_zero, List.set_cons_succ]
        refine rgn.Walk.bs ?_ ?_
        · refine rgn.stepE rfl rfl (fun K hK => ?_)
          have qq := HO.out.cell 1
          go_simp
          refine hK _ _ (AnyW.any _ _) ?_
          clear hK K qq
          try simp only [Act.put, List.setIfInBounds_toArray, List.set_cons_zero, List.set_cons_succ]
          refine rgn.Walk.es ?_
          refine rgn.stepE rfl rfl (fun K hK => ?_)
          have b0 := OB.out.cell 0; have b1 := OB.out.cell 1; have b2 := OB.out.cell 2; have b3 := OB.out.cell 3
          go_simp
          refine hK _ _ (AnyW.any _ _) ?_
          clear hK K b0 b1 b2 b3
          try simp only [Act.put, List.setIfInBounds_toArray, List.set_cons_zero, List.set_cons_succ]
          refine rgn.Walk.es ?_
          refine rgn.stepE rfl rfl (fun K hK => ?_)
          go_simp
          rw [HE1.out]
          refine (IH.out (d + 1) .nil W (by omega) HMk.out HWk.out HNk.out (Nat.le_trans HBs.out Q.out.size) HKk.out HLk.out).mono ?_
          rintro x w9 ⟨t', rfl, hg9, hp9⟩
          obtain ⟨q, hq⟩ := Tr.ptr_form t'
          have HG9 := hid hg9; have HP9 := hid hp9; have HPq := hid hq
          rw [hq]
          refine hK _ _ (AnyW.any _ _) ?_
          clear hK K hq hp9
          have HO := hid (HO.out.only hg9.only HNn.out)
          clear hg9
          try simp only [Act.put, List.setIfInBounds_toArray, List.set_cons_zero, List.set_cons_succ]
          refine rgn.Walk.ys (v := ?_) rfl rfl rfl ?_ ?_
          rotate_left 1
          · intro W' hW'
            go_simp
            try with_reducible rfl
          try simp only [Act.put, List.setIfInBounds_toArray, List.set_cons_zero, List.set_cons_succ]
          refine rgn.Walk.es ?_
          refine rgn.stepE rfl rfl (fun K hK => ?_)
          have ff := HO.out.frozen 1; have qq := HO.out.cell 1
          go_simp
          refine hK _ _ (AnyW.any _ _) ?_
          clear hK K ff qq
          try simp only [Act.put, List.setIfInBounds_toArray, List.set_cons_zero, List.set_cons_succ]
          refine rgn.Walk.zs (NoPanic.normal ?_)
          go_wp2_with fail
          go_ret
          have hg := grew_r HMW.out HW.out HN.out (p := pre net d) (by have := HG9.out; rw [pre_succ _ hd32, hz] at this; first | exact this | (rw [Int.add_zero] at this; exact this))
          rw [HPq.out] at hg
          refine ⟨_, rfl, (hg.from Q.out (fun k hk => .inl hk)).from HQ.out HG.out, ?_⟩
          simpa [Tr.all] using HP9.out
        · refine rgn.stepE rfl rfl (fun K hK => ?_)
          have b0 := OB.out.cell 0; have b1 := OB.out.cell 1; have b2 := OB.out.cell 2; have b3 := OB.out.cell 3
          go_simp
          refine hK _ _ (AnyW.any _ _) ?_
          clear hK K b0 b1 b2 b3
          try simp only [Act.put, List.setIfInBounds_toArray, List.set_cons_zero, List.set_cons_succ]
          refine rgn.Walk.es ?_
          refine rgn.stepE rfl rfl (fun K hK => ?_)
          have qq := HO.out.cell 1
          go_simp
          refine hK _ _ (AnyW.any _ _) ?_
          clear hK K qq
          try simp only [Act.put, List.setIfInBounds_toArray, List.set_cons_zero, List.set_cons_succ]
          refine rgn.Walk.es ?_
          refine rgn.stepE rfl rfl (fun K hK => ?_)
          go_simp
          rw [HE1.out]
          refine (IH.out (d + 1) .nil W (by omega) HMk.out HWk.out HNk.out (Nat.le_trans HBs.out Q.out.size) HKk.out HLk.out).mono ?_
          rintro x w9 ⟨t', rfl, hg9, hp9⟩
          obtain ⟨q, hq⟩ := Tr.ptr_form t'
          have HG9 := hid hg9; have HP9 := hid hp9; have HPq := hid hq
          rw [hq]
          refine hK _ _ (AnyW.any _ _) ?_
          clear hK K hq hp9
          have HO := hid (HO.out.only hg9.only HNn.out)
          clear hg9
          try simp only [Act.put, List.setIfInBounds_toArray, List.set_cons_zero, List.set_cons_succ]
          refine rgn.Walk.ys (v := ?_) rfl rfl rfl ?_ ?_
          rotate_left 1
          · intro W' hW'
            go_simp
            try with_reducible rfl
          try simp only [Act.put, List.setIfInBounds_toArray, List.set_cons_zero, List.set_cons_succ]
          refine rgn.Walk.es ?_
          refine rgn.stepE rfl rfl (fun K hK => ?_)
          have ff := HO.out.frozen 1; have qq := HO.out.cell 1
          go_simp
          refine hK _ _ (AnyW.any _ _) ?_
          clear hK K ff qq
          try simp only [Act.put, List.setIfInBounds_toArray, List.set_cons_zero, List.set_cons_succ]
          refine rgn.Walk.zs (NoPanic.normal ?_)
          go_wp2_with fail
          go_ret
          have hg := grew_r HMW.out HW.out HN.out (p := pre net d) (by have := HG9.out; rw [pre_succ _ hd32, hz] at this; first | exact this | (rw [Int.add_zero] at this; exact this))
          rw [HPq.out] at hg
          refine ⟨_, rfl, (hg.from Q.out (fun k hk => .inl hk)).from HQ.out HG.out, ?_⟩
          simpa [Tr.all] using HP9.out
    | nd nb v L l rr =>
      obtain ⟨W0, hW0⟩ : ∃ W0, w.alloc (.cells #[.int .u32 net, .int .i64 (b : Int), .int .u32 via, .int .i64 met] 34) = W0 := ⟨_, rfl⟩
      have OB : Hid (Ob W0 w.heap.size 34 #[.int .u32 net, .int .i64 (b : Int), .int .u32 via, .int .i64 met]) := hid (by rw [← hW0]; exact Ob.new _ _ _)
      have Q0 : Only [] w W0 := by rw [← hW0]; exact (Only.refl [] w).alloc _
      obtain ⟨WT, hWT⟩ : ∃ WT, W0 = WT := ⟨_, rfl⟩
      subst hWT
      have HG : Hid (∀ k ∈ (Tr.nd nb v L l rr).bks, k ∈ (Tr.nd nb v L l rr).bks ∨ w.heap.size ≤ k) := hid (fun k hk => .inl hk)
      have HM := hid (Tr.okm_nil hm Q0); have HW := hid hw; have HN := hid hn; have HK := hid hk; have HLn := hid hlen; have HQ := hid Q0
      have HBs : Hid (base ≤ W0.heap.size) := hid (Nat.le_trans hbase Q0.size)
      have HOb := hid HM.out.2.1; have HOv := hid HM.out.2.2.1
      clear hm hw hn hk hlen Q0 hbase
      rw [show Tr.ptr (Tr.nd nb v L l rr) = Value.pointer (some ⟨nb, 0, none⟩) from rfl]
      have hd32 : d < 32 := by omega
      have hdb : ¬ (d : Int) = (b : Int) := by omega
      have HE1 : Hid (IntKind.i64.wrap ((d : Int) + 1) = ((d + 1 : Nat) : Int)) := hid (by rw [i64_in _ (by omega)]; omega)
      have g0 := OB.out.cell 0; have g1 := OB.out.cell 1; have g2 := OB.out.cell 2; have g3 := OB.out.cell 3
      go_enter Try.func20, Try.ntmps20
      go_wp2_with fail
      clear g0 g1 g2 g3
      refine (bit1 W0 net d hna hd32).mono ?_
      rintro x w2 ⟨rfl, hw2⟩
      subst hw2
      rcases bt_or net d with hz | hz
      · have hz2 : (bt net d : Int) = 0 := hz
        rw [hz2]
        go_wp2_with fail
        refine wp_region_noPanic ?_
        refine rgn.regionT (R := AnyW) (by kernel_rfl) (fun _ => AnyW.any _ _) (fun _ _ _ _ _ => AnyW.any _ _) (fun _ _ _ _ _ h => h) (.y 0 (.y 1 (.y 2 (.y 3 (.y 4 (.y 5 (.y 6 (.y 9 (.y 10 (.y 12 (.y 13 (.b 7 8 (.e 8 (.e 11 (.y 14 (.e 15 .z)))) (.e 7 (.e 11 (.y 14 (.e 15 .z)))))))))))))))) (by kernel_rfl) (fun W hWd => ?_)
        have HWd := hid hWd; clear hWd
        have q8 : Only [] W0 W := Only.eq_drew (Only.refl [] _) HWd.out
        have HO := hid (HOb.out.only q8 (by simp)); have Q := hid q8; have OB := hid (OB.out.only q8 (by simp)); have HMW := hid (Tr.okm_nil HM.out q8)
        have HMk : Hid (Tr.okm base W l) := hid HMW.out.2.2.2.1
        have HWk : Hid (Tr.wf l (d + 1) (pre net (d + 1))) := hid (by have := HW.out.2.2.2.1; rw [pre_succ _ hd32, hz]; first | exact this | (rw [Int.add_zero]; exact this))
        have HNd := hid ((Tr.nodup_nd ..).1 HN.out)
        have HNk : Hid ((Tr.bks l).Nodup) := hid HNd.out.2.2.1
        have HNn : Hid (nb ∉ Tr.bks l) := hid HNd.out.1.2.1
        have HKk : Hid (∀ y ∈ Tr.all l, ¬ Key y ⟨net, b, via, met⟩) := hid (fun y hy => HK.out y (by simp only [Tr.all, List.mem_append] at hy ⊢; exact .inl (.inr hy)))
        have HLk : Hid ((Tr.all l).length ≤ 1000) := hid (by have := HLn.out; simp only [Tr.all, List.length_append] at this ⊢; omega)
        clear HWd q8
        refine rgn.Walk.ys (v := ?_) rfl rfl rfl ?_ ?_
        rotate_left 1
        · intro W' hW'
          go_simp
          try with_reducible rfl
        try simp only [Act.put, List.setIfInBounds_toArray, List.set_cons_zero, List.set_cons_succ]
        refine rgn.Walk.ys (v := ?_) rfl rfl rfl ?_ ?_
        rotate_left 1
        · intro W' hW'
          go_simp
          try with_reducible rfl
        try simp only [Act.put, List.setIfInBounds_toArray, List.set_cons_zero, List.set_cons_succ]
        refine rgn.Walk.ys (v := ?_) rfl rfl rfl ?_ ?_
        rotate_left 1
        · intro W' hW'
          go_simp
          try with_reducible rfl
        try simp only [Act.put, List.setIfInBounds_toArray, List.set_cons_zero, List.set_cons_succ]
        refine rgn.Walk.ys (v := ?_) rfl rfl rfl ?_ ?_
        rotate_left 1
        · intro W' hW'
          go_simp
          try with_reducible rfl
        try simp only [Act.put, List.setIfInBounds_toArray, List.set_cons_zero, List.set_cons_succ]
        refine rgn.Walk.ys (v := ?_) rfl rfl rfl ?_ ?_
        rotate_left 1
        · intro W' hW'
          go_simp
          try with_reducible rfl
        try simp only [Act.put, List.setIfInBounds_toArray, List.set_cons_zero, List.set_cons_succ]
        refine rgn.Walk.ys (v := ?_) rfl rfl rfl ?_ ?_
        rotate_left 1
        · intro W' hW'
          go_simp
          try with_reducible rfl
        try simp only [Act.put, List.setIfInBounds_toArray, List.set_cons_zero, List.set_cons_succ]
        refine rgn.Walk.ys (v := ?_) rfl rfl rfl ?_ ?_
        rotate_left 1
        · intro W' hW'
          go_simp
          try with_reducible rfl
        try simp only [Act.put, List.setIfInBounds_toArray, List.set_cons_zero, List.set_cons_succ]
        refine rgn.Walk.ys (v := ?_) rfl rfl rfl ?_ ?_
        rotate_left 1
        · intro W' hW'
          go_simp
          try with_reducible rfl
        try simp only [Act.put, List.setIfInBounds_toArray, List.set_cons_zero, List.set_cons_succ]
        refine rgn.Walk.ys (v := ?_) rfl rfl rfl ?_ ?_
        rotate_left 1
        · intro W' hW'
          go_simp
          try with_reducible rfl
        try simp only [Act.put, List.setIfInBounds_toArray, List.set_cons_zero, List.set_cons_succ]
        refine rgn.Walk.ys (v := ?_) rfl rfl rfl ?_ ?_
        rotate_left 1
        · intro W' hW'
          go_simp
          try with_reducible rfl
        try simp only [Act.put, List.setIfInBounds_toArray, List.set_cons_zero, List.set_cons_succ]
        refine rgn.Walk.ys (v := ?_) rfl rfl rfl ?_ ?_
        rotate_left 1
        · intro W' hW'
          go_simp
          try with_reducible rfl
        try simp only [Act.put, List.setIfInBounds_toArray, List.set_cons_zero, List.set_cons_succ]
        refine rgn.Walk.bs ?_ ?_
        · refine rgn.stepE rfl rfl (fun K hK => ?_)
          have qq := HO.out.cell 0
          go_simp
          refine hK _ _ (AnyW.any _ _) ?_
          clear hK K qq
          try simp only [Act.put, List.setIfInBounds_toArray, List.set_cons_zero, List.set_cons_succ]
          refine rgn.Walk.es ?_
          refine rgn.stepE rfl rfl (fun K hK => ?_)
          have b0 := OB.out.cell 0; have b1 := OB.out.cell 1; have b2 := OB.out.cell 2; have b3 := OB.out.cell 3
          go_simp
          refine hK _ _ (AnyW.any _ _) ?_
          clear hK K b0 b1 b2 b3
          try simp only [Act.put, List.setIfInBounds_toArray, List.set_cons_zero, List.set_cons_succ]
          refine rgn.Walk.es ?_
          refine rgn.stepE rfl rfl (fun K hK => ?_)
          go_simp
          rw [HE1.out]
          refine (IH.out (d + 1) l W (by omega) HMk.out HWk.out HNk.out (Nat.le_trans HBs.out Q.out.size) HKk.out HLk.out).mono ?_
          rintro x w9 ⟨t', rfl, hg9, hp9⟩
          obtain ⟨q, hq⟩ := Tr.ptr_form t'
          have HG9 := hid hg9; have HP9 := hid hp9; have HPq := hid hq
          rw [hq]
          refine hK _ _ (AnyW.any _ _) ?_
          clear hK K hq hp9
          have HO := hid (HO.out.only hg9.only HNn.out)
          clear hg9
          try simp only [Act.put, List.setIfInBounds_toArray, List.set_cons_zero, List.set_cons_succ]
          refine rgn.Walk.ys (v := ?_) rfl rfl rfl ?_ ?_
          rotate_left 1
          · intro W' hW'
            go_simp
            try with_reducible rfl
          try simp only [Act.put, List.setIfInBounds_toArray, List.set_cons_zero, List.set_cons_succ]
          refine rgn.Walk.es ?_
          refine rgn.stepE rfl rfl (fun K hK => ?_)
          have ff := HO.out.frozen 0; have qq := HO.out.cell 0
          go_simp
          refine hK _ _ (AnyW.any _ _) ?_
          clear hK K ff qq
          try simp only [Act.put, List.setIfInBounds_toArray, List.set_cons_zero, List.set_cons_succ]
          refine rgn.Walk.zs (NoPanic.normal ?_)
          go_wp2_with fail
          go_ret
          have hg := grew_l HMW.out HW.out HN.out (p := pre net d) (by have := HG9.out; rw [pre_succ _ hd32, hz] at this; first | exact this | (rw [Int.add_zero] at this; exact this))
          rw [HPq.out] at hg
          refine ⟨_, rfl, (hg.from Q.out (fun k hk => .inl hk)).from HQ.out HG.out, ?_⟩
          show List.Perm (_ ++ _ ++ _) (_ :: (_ ++ _ ++ _))
          refine ((List.Perm.append_left _ HP9.out).append_right _).trans ?_
          rw [show ∀ (A B : List Rt) (x : Rt) (C : List Rt), A ++ x :: B ++ C = A ++ x :: (B ++ C) from fun A B x C => by simp, List.append_assoc]
          exact List.perm_middle
        · refine rgn.stepE rfl rfl (fun K hK => ?_)
          have b0 := OB.out.cell 0; have b1 := OB.out.cell 1; have b2 := OB.out.cell 2; have b3 := OB.out.cell 3
          go_simp
          refine hK _ _ (AnyW.any _ _) ?_
          clear hK K b0 b1 b2 b3
          try simp only [Act.put, List.setIfInBounds_toArray, List.set_cons_zero, List.set_cons_succ]
          refine rgn.Walk.es ?_
          refine rgn.stepE rfl rfl (fun K hK => ?_)
          have qq := HO.out.cell 0
          go_simp
          refine hK _ _ (AnyW.any _ _) ?_
          clear hK K qq
          try simp only [Act.put, List.setIfInBounds_toArray, List.set_cons_zero, List.set_cons_succ]
          refine rgn.Walk.es ?_
          refine rgn.stepE rfl rfl (fun K hK => ?_)
          go_simp
          rw [HE1.out]
          refine (IH.out (d + 1) l W (by omega) HMk.out HWk.out HNk.out (Nat.le_trans HBs.out Q.out.size) HKk.out HLk.out).mono ?_
          rintro x w9 ⟨t', rfl, hg9, hp9⟩
          obtain ⟨q, hq⟩ := Tr.ptr_form t'
          have HG9 := hid hg9; have HP9 := hid hp9; have HPq := hid hq
          rw [hq]
          refine hK _ _ (AnyW.any _ _) ?_
          clear hK K hq hp9
          have HO := hid (HO.out.only hg9.only HNn.out)
          clear hg9
          try simp only [Act.put, List.setIfInBounds_toArray, List.set_cons_zero, List.set_cons_succ]
          refine rgn.Walk.ys (v := ?_) rfl rfl rfl ?_ ?_
          rotate_left 1
          · intro W' hW'
            go_simp
            try with_reducible rfl
          try simp only [Act.put, List.setIfInBounds_toArray, List.set_cons_zero, List.set_cons_succ]
          refine rgn.Walk.es ?_
          refine rgn.stepE rfl rfl (fun K hK => ?_)
          have ff := HO.out.frozen 0; have qq := HO.out.cell 0
          go_simp
          refine hK _ _ (AnyW.any _ _) ?_
          clear hK K ff qq
          try simp only [Act.put, List.setIfInBounds_toArray, List.set_cons_zero, List.set_cons_succ]
          refine rgn.Walk.zs (NoPanic.normal ?_)
          go_wp2_with fail
          go_ret
          have hg := grew_l HMW.out HW.out HN.out (p := pre net d) (by have := HG9.out; rw [pre_succ _ hd32, hz] at this; first | exact this | (rw [Int.add_zero] at this; exact this))
          rw [HPq.out] at hg
          refine ⟨_, rfl, (hg.from Q.out (fun k hk => .inl hk)).from HQ.out HG.out, ?_⟩
          show List.Perm (_ ++ _ ++ _) (_ :: (_ ++ _ ++ _))
          refine ((List.Perm.append_left _ HP9.out).append_right _).trans ?_
          rw [show ∀ (A B : List Rt) (x : Rt) (C : List Rt), A ++ x :: B ++ C = A ++ x :: (B ++ C) from fun A B x C => by simp, List.append_assoc]
          exact List.perm_middle
      · have hz2 : (bt net d : Int) = 1 := hz
        rw [hz2]
        go_wp2_with fail
        refine wp_region_noPanic ?_
        refine rgn.regionT (R := AnyW) (by kernel_rfl) (fun _ => AnyW.any _ _) (fun _ _ _ _ _ => AnyW.any _ _) (fun _ _ _ _ _ h => h) (.y 0 (.y 1 (.y 2 (.y 3 (.y 4 (.y 5 (.y 6 (.y 9 (.y 10 (.y 12 (.y 13 (.b 7 8 (.e 8 (.e 11 (.y 14 (.e 15 .z)))) (.e 7 (.e 11 (.y 14 (.e 15 .z)))))))))))))))) (by kernel_rfl) (fun W hWd => ?_)
        have HWd := hid hWd; clear hWd
        have q8 : Only [] W0 W := Only.eq_drew (Only.refl [] _) HWd.out
        have HO := hid (HOb.out.only q8 (by simp)); have Q := hid q8; have OB := hid (OB.out.only q8 (by simp)); have HMW := hid (Tr.okm_nil HM.out q8)
        have HMk : Hid (Tr.okm base W rr) := hid HMW.out.2.2.2.2
        have HWk : Hid (Tr.wf rr (d + 1) (pre net (d + 1))) := hid (by have := HW.out.2.2.2.2; rw [pre_succ _ hd32, hz]; first | exact this | (rw [Int.add_zero]; exact this))
        have HNd := hid ((Tr.nodup_nd ..).1 HN.out)
        have HNk : Hid ((Tr.bks rr).Nodup) := hid HNd.out.2.2.2.1
        have HNn : Hid (nb ∉ Tr.bks rr) := hid HNd.out.1.2.2
        have HKk : Hid (∀ y ∈ Tr.all rr, ¬ Key y ⟨net, b, via, met⟩) := hid (fun y hy => HK.out y (by simp only [Tr.all, List.mem_append] at hy ⊢; exact .inr hy))
        have HLk : Hid ((Tr.all rr).length ≤ 1000) := hid (by have := HLn.out; simp only [Tr.all, List.length_append] at this ⊢; omega)
        clear HWd q8
        refine rgn.Walk.ys (v := ?_) rfl rfl rfl ?_ ?_
        rotate_left 1
        · intro W' hW'
          go_simp
          try with_reducible rfl
        try simp only [Act.put, List.setIfInBounds_toArray, List.set_cons_zero, List.set_cons_succ]
        refine rgn.Walk.ys (v := ?_) rfl rfl rfl ?_ ?_
        rotate_left 1
        · intro W' hW'
          go_simp
          try with_reducible rfl
        try simp only [Act.put, List.setIfInBounds_toArray, List.set_cons_zero, List.set_cons_succ]
        refine rgn.Walk.ys (v := ?_) rfl rfl rfl ?_ ?_
        rotate_left 1
        · intro W' hW'
          go_simp
          try with_reducible rfl
        try simp only [Act.put, List.setIfInBounds_toArray, List.set_cons_zero, List.set_cons_succ]
        refine rgn.Walk.ys (v := ?_) rfl rfl rfl ?_ ?_
        rotate_left 1
        · intro W' hW'
          go_simp
          try with_reducible rfl
        try simp only [Act.put, List.setIfInBounds_toArray, List.set_cons_zero, List.set_cons_succ]
        refine rgn.Walk.ys (v := ?_) rfl rfl rfl ?_ ?_
        rotate_left 1
        · intro W' hW'
          go_simp
          try with_reducible rfl
        try simp only [Act.put, List.setIfInBounds_toArray, List.set_cons_zero, List.set_cons_succ]
        refine rgn.Walk.ys (v := ?_) rfl rfl rfl ?_ ?_
        rotate_left 1
        · intro W' hW'
          go_simp
          try with_reducible rfl
        try simp only [Act.put, List.setIfInBounds_toArray, List.set_cons_zero, List.set_cons_succ]
        refine rgn.Walk.ys (v := ?_) rfl rfl rfl ?_ ?_
        rotate_left 1
        · intro W' hW'
          go_simp
          try with_reducible rfl
        try simp only [Act.put, List.setIfInBounds_toArray, List.set_cons_zero, List.set_cons_succ]
        refine rgn.Walk.ys (v := ?_) rfl rfl rfl ?_ ?_
        rotate_left 1
        · intro W' hW'
          go_simp
          try with_reducible rfl
        try simp only [Act.put, List.setIfInBounds_toArray, List.set_cons_zero, List.set_cons_succ]
        refine rgn.Walk.ys (v := ?_) rfl rfl rfl ?_ ?_
        rotate_left 1
        · intro W' hW'
          go_simp
          try with_reducible rfl
        try simp only [Act.put, List.setIfInBounds_toArray, List.set_cons_zero, List.set_cons_succ]
        refine rgn.Walk.ys (v := ?_) rfl rfl rfl ?_ ?_
        rotate_left 1
        · intro W' hW'
          go_simp
          try with_reducible rfl
        try simp only [Act.put, List.setIfInBounds_toArray, List.set_cons_zero, List.set_cons_succ]
        refine rgn.Walk.ys (v := ?_) rfl rfl rfl ?_ ?_
        rotate_left 1
        · intro W' hW'
          go_simp
          try with_reducible rfl
        try simp only [Act.put, List.setIfInBounds_toArray, List.set_cons_zero, List.set_cons_succ]
        refine rgn.Walk.bs ?_ ?_
        · refine rgn.stepE rfl rfl (fun K hK => ?_)
          have qq := HO.out.cell 1
          go_simp
          refine hK _ _ (AnyW.any _ _) ?_
          clear hK K qq
          try simp only [Act.put, List.setIfInBounds_toArray, List.set_cons_zero, List.set_cons_succ]
          refine rgn.Walk.es ?_
          refine rgn.stepE rfl rfl (fun K hK => ?_)
          have b0 := OB.out.cell 0; have b1 := OB.out.cell 1; have b2 := OB.out.cell 2; have b3 := OB.out.cell 3
          go_simp
          refine hK _ _ (AnyW.any _ _) ?_
          clear hK K b0 b1 b2 b3
          try simp only [Act.put, List.setIfInBounds_toArray, List.set_cons_zero, List.set_cons_succ]
          refine rgn.Walk.es ?_
          refine rgn.stepE rfl rfl (fun K hK => ?_)
          go_simp
          rw [HE1.out]
          refine (IH.out (d + 1) rr W (by omega) HMk.out HWk.out HNk.out (Nat.le_trans HBs.out Q.out.size) HKk.out HLk.out).mono ?_
          rintro x w9 ⟨t', rfl, hg9, hp9⟩
          obtain ⟨q, hq⟩ := Tr.ptr_form t'
          have HG9 := hid hg9; have HP9 := hid hp9; have HPq := hid hq
          rw [hq]
          refine hK _ _ (AnyW.any _ _) ?_
          clear hK K hq hp9
          have HO := hid (HO.out.only hg9.only HNn.out)
          clear hg9
          try simp only [Act.put, List.setIfInBounds_toArray, List.set_cons_zero, List.set_cons_succ]
          refine rgn.Walk.ys (v := ?_) rfl rfl rfl ?_ ?_
          rotate_left 1
          · intro W' hW'
            go_simp
            try with_reducible rfl
          try simp only [Act.put, List.setIfInBounds_toArray, List.set_cons_zero, List.set_cons_succ]
          refine rgn.Walk.es ?_
          refine rgn.stepE rfl rfl (fun K hK => ?_)
          have ff := HO.out.frozen 1; have qq := HO.out.cell 1
          go_simp
          refine hK _ _ (AnyW.any _ _) ?_
          clear hK K ff qq
          try simp only [Act.put, List.setIfInBounds_toArray, List.set_cons_zero, List.set_cons_succ]
          refine rgn.Walk.zs (NoPanic.normal ?_)
          go_wp2_with fail
          go_ret
          have hg := grew_r HMW.out HW.out HN.out (p := pre net d) (by have := HG9.out; rw [pre_succ _ hd32, hz] at this; first | exact this | (rw [Int.add_zero] at this; exact this))
          rw [HPq.out] at hg
          refine ⟨_, rfl, (hg.from Q.out (fun k hk => .inl hk)).from HQ.out HG.out, ?_⟩
          show List.Perm (_ ++ _ ++ _) (_ :: (_ ++ _ ++ _))
          refine (List.Perm.append_left _ HP9.out).trans ?_
          skip
          exact List.perm_middle
        · refine rgn.stepE rfl rfl (fun K hK => ?_)
          have b0 := OB.out.cell 0; have b1 := OB.out.cell 1; have b2 := OB.out.cell 2; have b3 := OB.out.cell 3
          go_simp
          refine hK _ _ (AnyW.any _ _) ?_
          clear hK K b0 b1 b2 b3
          try simp only [Act.put, List.setIfInBounds_toArray, List.set_cons_zero, List.set_cons_succ]
          refine rgn.Walk.es ?_
          refine rgn.stepE rfl rfl (fun K hK => ?_)
          have qq := HO.out.cell 1
          go_simp
          refine hK _ _ (AnyW.any _ _) ?_
          clear hK K qq
          try simp only [Act.put, List.setIfInBounds_toArray, List.set_cons_zero, List.set_cons_succ]
          refine rgn.Walk.es ?_
          refine rgn.stepE rfl rfl (fun K hK => ?_)
          go_simp
          rw [HE1.out]
          refine (IH.out (d + 1) rr W (by omega) HMk.out HWk.out HNk.out (Nat.le_trans HBs.out Q.out.size) HKk.out HLk.out).mono ?_
          rintro x w9 ⟨t', rfl, hg9, hp9⟩
          obtain ⟨q, hq⟩ := Tr.ptr_form t'
          have HG9 := hid hg9; have HP9 := hid hp9; have HPq := hid hq
          rw [hq]
          refine hK _ _ (AnyW.any _ _) ?_
          clear hK K hq hp9
          have HO := hid (HO.out.only hg9.only HNn.out)
          clear hg9
          try simp only [Act.put, List.setIfInBounds_toArray, List.set_cons_zero, List.set_cons_succ]
          refine rgn.Walk.ys (v := ?_) rfl rfl rfl ?_ ?_
          rotate_left 1
          · intro W' hW'
            go_simp
            try with_reducible rfl
          try simp only [Act.put, List.setIfInBounds_toArray, List.set_cons_zero, List.set_cons_succ]
          refine rgn.Walk.es ?_
          refine rgn.stepE rfl rfl (fun K hK => ?_)
          have ff := HO.out.frozen 1; have qq := HO.out.cell 1
          go_simp
          refine hK _ _ (AnyW.any _ _) ?_
          clear hK K ff qq
          try simp only [Act.put, List.setIfInBounds_toArray, List.set_cons_zero, List.set_cons_succ]
          refine rgn.Walk.zs (NoPanic.normal ?_)
          go_wp2_with fail
          go_ret
          have hg := grew_r HMW.out HW.out HN.out (p := pre net d) (by have := HG9.out; rw [pre_succ _ hd32, hz] at this; first | exact this | (rw [Int.add_zero] at this; exact this))
          rw [HPq.out] at hg
          refine ⟨_, rfl, (hg.from Q.out (fun k hk => .inl hk)).from HQ.out HG.out, ?_⟩
          show List.Perm (_ ++ _ ++ _) (_ :: (_ ++ _ ++ _))
          refine (List.Perm.append_left _ HP9.out).trans ?_
          skip
          exact List.perm_middle
end Go.Proofs.Ytoidpakenocllaa.rou
