/-
  Chapter 10 (igmp): a step of a script in both Hosts, by a walk of the law's text. Conditions: none but those typed.
-/
import Derived.Test.YtodcjokafjdhdaaIgO
namespace Go.Proofs.Ytodcjokafjdhdaa.igm
set_option linter.unusedVariables false
set_option linter.unusedSimpArgs false
open Go.ChangeShapes Go.WideShapes Go.ChangeAt Go.RowKit Go.IntWalk Go.Lib
/-- The Hosts of both stand apart, and the code's holds S. -/
structure PJ (w0 w : World) (g1 g2 : Nat) (F : List Nat) (S : List Gm) (v : Value) (D : List Dm) : Prop where
  hi : HI w w0.heap.size g1 F S
  di : DI w w0.heap.size g2 v D
  low2 : w0.heap.size ≤ g2
  sep : ∀ k ∈ F, k ≠ g2 ∧ v.ownBlock ≠ some k
section
variable {w0 w w' : World} {g1 g2 : Nat} {F F' : List Nat} {S S' : List Gm} {v v' : Value} {D D' : List Dm}
theorem PJ.nil (h : PJ w0 w g1 g2 F S v D) (o : Only [] w w') : PJ w0 w' g1 g2 F S v D := ⟨h.hi.nil o, h.di.nil o, h.low2, h.sep⟩
theorem PJ.left (h : PJ w0 w g1 g2 F S v D) (s : HStep w w0.heap.size g1 F w' F' S') : PJ w0 w' g1 g2 F' S' v D := by
  refine ⟨s.hi, h.di.only s.only (fun hm => (h.sep _ hm).1 rfl) (fun j hj hm => (h.sep j hm).2 hj), h.low2, fun k hk => ?_⟩
  rcases s.bk k hk with h1 | h1
  · exact h.sep k h1
  · exact ⟨fun e => by have := h.di.ob.lt; omega, fun e => by have := (own_lt h.di.own k e).2; omega⟩
theorem PJ.right (h : PJ w0 w g1 g2 F S v D) (s : DStp w w0.heap.size g2 v w' v' D') : PJ w0 w' g1 g2 F S v' D' := by
  refine ⟨h.hi.only s.only (fun k hk hm => ?_), s.di, h.low2, fun k hk => ⟨(h.sep k hk).1, fun e => ?_⟩⟩
  · rcases List.mem_cons.1 hm with h1 | h1
    · exact (h.sep k hk).1 h1
    · exact (h.sep k hk).2 (by simpa using h1)
  · rcases s.bk with h1 | h1
    · rw [h1] at e; exact (h.sep k hk).2 e
    · have h2 := h1 k e
      have h3 := h.hi.lt k hk
      omega
theorem PJ.quietL (h : PJ w0 w g1 g2 F S v D) (s : HStep w w0.heap.size g1 F w' F' S') (o : Only [] w0 w) : Only [] w0 w' := s.quiet h.hi o (Nat.le_refl _)
theorem PJ.quietR (h : PJ w0 w g1 g2 F S v D) (s : DStp w w0.heap.size g2 v w' v' D') (o : Only [] w0 w) : Only [] w0 w' := o.fresh s.only (fun k hk => by
  rcases List.mem_cons.1 hk with h1 | h1
  · exact .inr (by rw [h1]; exact h.low2)
  · exact .inr (own_lt h.di.own k (by simpa using h1)).1)
/-- What was made of late stands as it was when the document's Host turns. -/
theorem PJ.row (h : PJ w0 w g1 g2 F S v D) (s : DStp w w0.heap.size g2 v w' v' D') {W : World} {A : Option Addr} {n : Nat} {cs : List Value} (hg : g2 < W.heap.size) (hv : ∀ k, v.ownBlock = some k → k < W.heap.size) (hr : RdS w A n 3 cs) (hf : ∀ b off, A = some ⟨b, off, none⟩ → W.heap.size ≤ b) : RdS w' A n 3 cs := hr.only s.only (fun b off e _ hm => by
  have h1 := hf b off e
  rcases List.mem_cons.1 hm with h2 | h2
  · omega
  · have := hv b (by simpa using h2); omega)
end
/-- Rows of addresses stand. -/
def KeepA (w w' : World) : Prop := ∀ gb cur, Ob w gb 23 cur → Ob w' gb 23 cur
theorem KeepA.trans {a b c : World} (h : KeepA a b) (k : KeepA b c) : KeepA a c := fun gb cur ho => k gb cur (h gb cur ho)
theorem KeepA.nil {a b : World} (o : Only [] a b) : KeepA a b := fun gb cur ho => ho.only o (by simp)
theorem HI.apart {w : World} {B g gb : Nat} {F : List Nat} {S : List Gm} {cur : Array Value} (h : HI w B g F S) (ho : Ob w gb 23 cur) : gb ∉ F := fun hm => by
  obtain ⟨v, M, dz, rfl, h1, h2, h3, -⟩ := h.ex
  rcases List.mem_cons.1 hm with h4 | h4
  · exact ob_ne ho h1 (by decide) h4
  · rcases List.mem_append.1 h4 with h5 | h5
    · exact ob_own ho h2 (by decide) (by simpa using h5)
    · obtain ⟨m, hm2, hp⟩ := List.mem_filterMap.1 h5
      exact ob_ne ho (h3 m hm2 gb hp) (by decide) rfl
theorem DI.apart {w : World} {B g gb : Nat} {v : Value} {D : List Dm} {cur : Array Value} (h : DI w B g v D) (ho : Ob w gb 23 cur) : gb ∉ g :: v.ownBlock.toList := fun hm => by
  rcases List.mem_cons.1 hm with h4 | h4
  · exact ob_ne ho h.ob (by decide) h4
  · exact ob_own ho h.own (by decide) (by simpa using h4)
theorem PJ.keepL {w0 w w' : World} {g1 g2 : Nat} {F F' : List Nat} {S S' : List Gm} {v : Value} {D : List Dm} (h : PJ w0 w g1 g2 F S v D) (s : HStep w w0.heap.size g1 F w' F' S') : KeepA w w' := fun gb cur ho => ho.only s.only (h.hi.apart ho)
theorem PJ.keepR {w0 w w' : World} {g1 g2 : Nat} {F : List Nat} {S : List Gm} {v v' : Value} {D D' : List Dm} (h : PJ w0 w g1 g2 F S v D) (s : DStp w w0.heap.size g2 v w' v' D') : KeepA w w' := fun gb cur ho => ho.only s.only (h.di.apart ho)
def Pl (w0 w : World) (g1 g2 : Nat) : Prop := ∃ F v D, PJ w0 w g1 g2 F (D.map Dm.ab) v D
def DoesE (w0 w : World) (g1 g2 : Nat) (x : Ending) (w' : World) : Prop := x = .returned (.bool true) ∧ Pl w0 w' g1 g2 ∧ Only [] w0 w' ∧ KeepA w w'
theorem if_msg {p : Prop} [Decidable p] {m : Int × Int × Int} {cs : List Value} {n : Nat} (h : (cs, n) = (if p then (msg m, 1) else ([], 0))) : ∃ L : List (Int × Int × Int), cs = rws msg L ∧ L.length = n ∧ n ≤ 1 := by
  by_cases hp : p
  · rw [if_pos hp] at h
    injection h with h1 h2; exact ⟨[m], by rw [h1]; simp [rws], by rw [h2]; rfl, by omega⟩
  · rw [if_neg hp] at h
    injection h with h1 h2; exact ⟨[], by rw [h1]; rfl, by rw [h2]; rfl, by omega⟩
/-- The document's Hear of anything. -/
theorem hearDA (w : World) (B g : Nat) (v : Value) (D : List Dm) (ty mx grp now draw : Int) (h : DI w B g v D) (hl : D.length ≤ 16) (hnow : 0 ≤ now ∧ now ≤ 9223372036854775807) (hdr : draw ≤ 9223372036854775807) :
    Calls Try.prog 38 #[.pointer (some ⟨g, 0, none⟩), .agg #[.int .i64 ty, .int .i64 mx, .int .u32 grp], .int .i64 now, .int .i64 draw] w (HearDE B g v (hearS ty mx grp now draw (D.map Dm.ab)) w) := by
  unfold hearS
  split
  · next hb => exact hearDB w B g v D ty mx grp now draw h hb
  · next hb =>
    have hmx : 0 ≤ mx ∧ mx ≤ 255 := by unfold badM at hb; omega
    have hty : 0 ≤ ty ∧ ty ≤ 255 := by unfold badM at hb; omega
    split
    · next ht => subst ht; exact hearDQ w B g v D mx grp now draw h hl hmx hnow hdr
    · next ht =>
      split
      · next ht2 => subst ht2; exact hearDR w B g v D mx grp now draw h hl hmx hnow hdr
      · next ht2 => exact hearDN w B g v D ty mx grp now draw h hl hmx ht ht2 hty hnow hdr
set_option maxRecDepth 100000 in
set_option maxHeartbeats 8000000 in
theorem doesJ (w0 w : World) (g1 g2 : Nat) (F : List Nat) (v : Value) (D : List Dm) (kind G ty mx grp draw by_ now : Int) (h : PJ w0 w g1 g2 F (D.map Dm.ab) v D) (ho : Only [] w0 w) (hk : kind = 1) (hnow : 0 ≤ now ∧ now ≤ 9223372036854775807) (hdr : draw ≤ 9223372036854775807) :
    Calls Try.prog 19 #[.pointer (some ⟨g1, 0, none⟩), .pointer (some ⟨g2, 0, none⟩), .agg #[.int .i64 kind, .int .u32 G, .int .i64 ty, .int .i64 mx, .int .u32 grp, .int .i64 draw, .int .i64 by_], .int .i64 now] w (DoesE w0 w g1 g2) := by
  obtain ⟨W0, hW0⟩ : ∃ W0, w.alloc (.cells #[.int .i64 kind, .int .u32 G, .int .i64 ty, .int .i64 mx, .int .u32 grp, .int .i64 draw, .int .i64 by_] 52) = W0 := ⟨_, rfl⟩
  have OB : Hid (Ob W0 w.heap.size 52 #[.int .i64 kind, .int .u32 G, .int .i64 ty, .int .i64 mx, .int .u32 grp, .int .i64 draw, .int .i64 by_]) := hid (by rw [← hW0]; exact Ob.new _ _ _)
  have oX : Only [] w W0 := by rw [← hW0]; exact (Only.refl [] w).alloc _
  have H := hid (h.nil oX); have Q := hid (ho.trans oX); have K0 := hid (KeepA.nil oX)
  have HXF : Hid (w.heap.size ∉ F) := hid (fun hm => by have := h.hi.lt _ hm; omega)
  have HXD : Hid (w.heap.size ∉ g2 :: v.ownBlock.toList) := hid (fun hm => by
    rcases List.mem_cons.1 hm with h1 | h1
    · have := h.di.ob.lt; omega
    · have := (own_lt h.di.own _ (by simpa using h1)).2; omega)
  have HG2 : Hid (g2 < W0.heap.size) := hid (H.out.di.ob.lt)
  have HVB : Hid (∀ k, v.ownBlock = some k → k < W0.heap.size) := hid (fun k e => (own_lt H.out.di.own k e).2)
  have HRS := hid H.out.hi.rise; have HLN : Hid (D.length ≤ 16) := hid (by have := H.out.hi.len; rwa [List.length_map] at this)
  have hn2 : -9223372036854775808 ≤ now ∧ now ≤ 9223372036854775807 := by omega
  have HSZ := hid Q.out.size
  clear h ho oX
  have hln := HLN.out
  subst hk
  go_enter Try.func19, Try.ntmps19
  have e0 := OB.out.cell 0; have e1 := OB.out.cell 1; have e2 := OB.out.cell 2; have e3 := OB.out.cell 3; have e4 := OB.out.cell 4; have e5 := OB.out.cell 5
  go_wp2_with fail
  clear e0 e1 e2 e3 e4 e5
  refine (joinH W0 w0.heap.size g1 F _ G now draw H.out.hi HSZ.out hn2 hdr).mono ?_
  rintro x w3 ⟨A, n, c, cs, F3, rfl, hcs, hr, hfr, hs⟩
  have HR := hid hr; have HFR := hid hfr; have HCS := hid hcs
  clear hr hfr hcs
  have H3 := hid (H.out.left hs); have OB3 := hid (OB.out.only hs.only HXF.out); have Q3 := hid (H.out.quietL hs Q.out); have K3 := hid (K0.out.trans (H.out.keepL hs))
  clear hs
  have e0 := OB3.out.cell 0; have e1 := OB3.out.cell 1; have e2 := OB3.out.cell 2; have e3 := OB3.out.cell 3; have e4 := OB3.out.cell 4; have e5 := OB3.out.cell 5
  go_wp2_with fail
  clear e0 e1 e2 e3 e4 e5
  refine (joinD w3 w0.heap.size g2 v D G now draw H3.out.di HRS.out hln Q3.out.size hnow hdr).mono ?_
  rintro x w4 ⟨A4, n4, c4, cs4, v4, D4, rfl, hcs4, hr4, hfr4, hs4, hab⟩
  have H4 := hid (H3.out.right hs4); have Q4 := hid (H3.out.quietR hs4 Q3.out); have K4 := hid (K3.out.trans (H3.out.keepR hs4)); have R4 := hid (H3.out.row hs4 HG2.out HVB.out HR.out HFR.out)
  have h7 := HCS.out.trans hcs4.symm
  injection h7 with h8 h9
  subst h8; subst h9
  obtain ⟨L, hL, hLn, hn1⟩ := if_msg (m := (22, 0, G)) HCS.out
  have RA := hid (hL ▸ R4.out); have RB := hid (hL ▸ hr4)
  have HLn := hid hLn; have HAB := hid hab
  clear hs4 hr4 hfr4 hcs4 hL hLn hab HCS HR HFR R4
  obtain ⟨er, her⟩ : ∃ er, joinE (D.map Dm.ab) G = er := ⟨_, rfl⟩
  rw [her]
  clear her
  go_wp2_with fail
  refine (messages1 w4 A A4 n c c4 L RA.out RB.out HLn.out (by omega)).mono ?_
  rintro x w5 ⟨rfl, o5⟩
  have H5 := hid (H4.out.nil o5); have Q5 := hid (Q4.out.trans o5); have K5 := hid (K4.out.trans (KeepA.nil o5))
  clear o5
  go_wp2_with fail
  go_ret
  have h9 := H5.out
  rw [← HAB.out] at h9
  exact ⟨rfl, ⟨_, _, D4, h9⟩, Q5.out, K5.out⟩
set_option maxRecDepth 100000 in
set_option maxHeartbeats 8000000 in
theorem doesL (w0 w : World) (g1 g2 : Nat) (F : List Nat) (v : Value) (D : List Dm) (kind G ty mx grp draw by_ now : Int) (h : PJ w0 w g1 g2 F (D.map Dm.ab) v D) (ho : Only [] w0 w) (hk : kind = 2) (hnow : 0 ≤ now ∧ now ≤ 9223372036854775807) (hdr : draw ≤ 9223372036854775807) :
    Calls Try.prog 19 #[.pointer (some ⟨g1, 0, none⟩), .pointer (some ⟨g2, 0, none⟩), .agg #[.int .i64 kind, .int .u32 G, .int .i64 ty, .int .i64 mx, .int .u32 grp, .int .i64 draw, .int .i64 by_], .int .i64 now] w (DoesE w0 w g1 g2) := by
  obtain ⟨W0, hW0⟩ : ∃ W0, w.alloc (.cells #[.int .i64 kind, .int .u32 G, .int .i64 ty, .int .i64 mx, .int .u32 grp, .int .i64 draw, .int .i64 by_] 52) = W0 := ⟨_, rfl⟩
  have OB : Hid (Ob W0 w.heap.size 52 #[.int .i64 kind, .int .u32 G, .int .i64 ty, .int .i64 mx, .int .u32 grp, .int .i64 draw, .int .i64 by_]) := hid (by rw [← hW0]; exact Ob.new _ _ _)
  have oX : Only [] w W0 := by rw [← hW0]; exact (Only.refl [] w).alloc _
  have H := hid (h.nil oX); have Q := hid (ho.trans oX); have K0 := hid (KeepA.nil oX)
  have HXF : Hid (w.heap.size ∉ F) := hid (fun hm => by have := h.hi.lt _ hm; omega)
  have HXD : Hid (w.heap.size ∉ g2 :: v.ownBlock.toList) := hid (fun hm => by
    rcases List.mem_cons.1 hm with h1 | h1
    · have := h.di.ob.lt; omega
    · have := (own_lt h.di.own _ (by simpa using h1)).2; omega)
  have HG2 : Hid (g2 < W0.heap.size) := hid (H.out.di.ob.lt)
  have HVB : Hid (∀ k, v.ownBlock = some k → k < W0.heap.size) := hid (fun k e => (own_lt H.out.di.own k e).2)
  have HRS := hid H.out.hi.rise; have HLN : Hid (D.length ≤ 16) := hid (by have := H.out.hi.len; rwa [List.length_map] at this)
  have hn2 : -9223372036854775808 ≤ now ∧ now ≤ 9223372036854775807 := by omega
  have HSZ := hid Q.out.size
  clear h ho oX
  have hln := HLN.out
  subst hk
  go_enter Try.func19, Try.ntmps19
  have e0 := OB.out.cell 0; have e1 := OB.out.cell 1; have e2 := OB.out.cell 2; have e3 := OB.out.cell 3; have e4 := OB.out.cell 4; have e5 := OB.out.cell 5
  go_wp2_with fail
  clear e0 e1 e2 e3 e4 e5
  refine (leaveH W0 w0.heap.size g1 F _ G H.out.hi).mono ?_
  rintro x w3 ⟨A, n, c, cs, F3, rfl, hcs, hr, hfr, hs⟩
  have HR := hid hr; have HFR := hid hfr; have HCS := hid hcs
  clear hr hfr hcs
  have H3 := hid (H.out.left hs); have OB3 := hid (OB.out.only hs.only HXF.out); have Q3 := hid (H.out.quietL hs Q.out); have K3 := hid (K0.out.trans (H.out.keepL hs))
  clear hs
  have e0 := OB3.out.cell 0; have e1 := OB3.out.cell 1; have e2 := OB3.out.cell 2; have e3 := OB3.out.cell 3; have e4 := OB3.out.cell 4; have e5 := OB3.out.cell 5
  go_wp2_with fail
  clear e0 e1 e2 e3 e4 e5
  refine (leaveD w3 w0.heap.size g2 v D G H3.out.di HRS.out hln Q3.out.size).mono ?_
  rintro x w4 ⟨A4, n4, c4, cs4, v4, D4, rfl, hcs4, hr4, hfr4, hs4, hab⟩
  have H4 := hid (H3.out.right hs4); have Q4 := hid (H3.out.quietR hs4 Q3.out); have K4 := hid (K3.out.trans (H3.out.keepR hs4)); have R4 := hid (H3.out.row hs4 HG2.out HVB.out HR.out HFR.out)
  have h7 := HCS.out.trans hcs4.symm
  injection h7 with h8 h9
  subst h8; subst h9
  obtain ⟨L, hL, hLn, hn1⟩ := if_msg (m := (23, 0, G)) HCS.out
  have RA := hid (hL ▸ R4.out); have RB := hid (hL ▸ hr4)
  have HLn := hid hLn; have HAB := hid hab
  clear hs4 hr4 hfr4 hcs4 hL hLn hab HCS HR HFR R4
  obtain ⟨er, her⟩ : ∃ er, leaveE (D.map Dm.ab) G = er := ⟨_, rfl⟩
  rw [her]
  clear her
  go_wp2_with fail
  refine (messages1 w4 A A4 n c c4 L RA.out RB.out HLn.out (by omega)).mono ?_
  rintro x w5 ⟨rfl, o5⟩
  have H5 := hid (H4.out.nil o5); have Q5 := hid (Q4.out.trans o5); have K5 := hid (K4.out.trans (KeepA.nil o5))
  clear o5
  go_wp2_with fail
  go_ret
  have h9 := H5.out
  rw [← HAB.out] at h9
  exact ⟨rfl, ⟨_, _, D4, h9⟩, Q5.out, K5.out⟩
set_option maxRecDepth 100000 in
set_option maxHeartbeats 8000000 in
theorem doesH (w0 w : World) (g1 g2 : Nat) (F : List Nat) (v : Value) (D : List Dm) (kind G ty mx grp draw by_ now : Int) (h : PJ w0 w g1 g2 F (D.map Dm.ab) v D) (ho : Only [] w0 w) (hk : kind = 3) (hnow : 0 ≤ now ∧ now ≤ 9223372036854775807) (hdr : draw ≤ 9223372036854775807) :
    Calls Try.prog 19 #[.pointer (some ⟨g1, 0, none⟩), .pointer (some ⟨g2, 0, none⟩), .agg #[.int .i64 kind, .int .u32 G, .int .i64 ty, .int .i64 mx, .int .u32 grp, .int .i64 draw, .int .i64 by_], .int .i64 now] w (DoesE w0 w g1 g2) := by
  obtain ⟨W0, hW0⟩ : ∃ W0, w.alloc (.cells #[.int .i64 kind, .int .u32 G, .int .i64 ty, .int .i64 mx, .int .u32 grp, .int .i64 draw, .int .i64 by_] 52) = W0 := ⟨_, rfl⟩
  have OB : Hid (Ob W0 w.heap.size 52 #[.int .i64 kind, .int .u32 G, .int .i64 ty, .int .i64 mx, .int .u32 grp, .int .i64 draw, .int .i64 by_]) := hid (by rw [← hW0]; exact Ob.new _ _ _)
  have oX : Only [] w W0 := by rw [← hW0]; exact (Only.refl [] w).alloc _
  have H := hid (h.nil oX); have Q := hid (ho.trans oX); have K0 := hid (KeepA.nil oX)
  have HXF : Hid (w.heap.size ∉ F) := hid (fun hm => by have := h.hi.lt _ hm; omega)
  have HXD : Hid (w.heap.size ∉ g2 :: v.ownBlock.toList) := hid (fun hm => by
    rcases List.mem_cons.1 hm with h1 | h1
    · have := h.di.ob.lt; omega
    · have := (own_lt h.di.own _ (by simpa using h1)).2; omega)
  have HG2 : Hid (g2 < W0.heap.size) := hid (H.out.di.ob.lt)
  have HVB : Hid (∀ k, v.ownBlock = some k → k < W0.heap.size) := hid (fun k e => (own_lt H.out.di.own k e).2)
  have HRS := hid H.out.hi.rise; have HLN : Hid (D.length ≤ 16) := hid (by have := H.out.hi.len; rwa [List.length_map] at this)
  have hn2 : -9223372036854775808 ≤ now ∧ now ≤ 9223372036854775807 := by omega
  have HSZ := hid Q.out.size
  clear h ho oX
  have hln := HLN.out
  subst hk
  go_enter Try.func19, Try.ntmps19
  have e0 := OB.out.cell 0; have e1 := OB.out.cell 1; have e2 := OB.out.cell 2; have e3 := OB.out.cell 3; have e4 := OB.out.cell 4; have e5 := OB.out.cell 5
  go_wp2_with fail
  clear e0 e1 e2 e3 e4 e5
  refine (hearH W0 w0.heap.size g1 F _ ty mx grp now draw H.out.hi HSZ.out hn2 hdr).mono ?_
  rintro x w3 ⟨rfl, F3, hs⟩
  have H3 := hid (H.out.left hs); have OB3 := hid (OB.out.only hs.only HXF.out); have Q3 := hid (H.out.quietL hs Q.out); have K3 := hid (K0.out.trans (H.out.keepL hs))
  clear hs
  have e0 := OB3.out.cell 0; have e1 := OB3.out.cell 1; have e2 := OB3.out.cell 2; have e3 := OB3.out.cell 3; have e4 := OB3.out.cell 4; have e5 := OB3.out.cell 5
  go_wp2_with fail
  clear e0 e1 e2 e3 e4 e5
  refine (hearDA w3 w0.heap.size g2 v D ty mx grp now draw H3.out.di hln hnow hdr).mono ?_
  rintro x w4 ⟨rfl, D4, hs4, hab⟩
  have H4 := hid (H3.out.right hs4); have Q4 := hid (H3.out.quietR hs4 Q3.out); have K4 := hid (K3.out.trans (H3.out.keepR hs4)); have HAB := hid hab
  clear hs4 hab
  go_wp2_with fail
  go_ret
  have h9 := H4.out
  rw [← HAB.out] at h9
  exact ⟨rfl, ⟨_, _, D4, h9⟩, Q4.out, K4.out⟩
set_option maxRecDepth 100000 in
set_option maxHeartbeats 8000000 in
theorem doesT (w0 w : World) (g1 g2 : Nat) (F : List Nat) (v : Value) (D : List Dm) (kind G ty mx grp draw by_ now : Int) (h : PJ w0 w g1 g2 F (D.map Dm.ab) v D) (ho : Only [] w0 w) (hk : kind ≠ 1 ∧ kind ≠ 2 ∧ kind ≠ 3) (hnow : 0 ≤ now ∧ now ≤ 9223372036854775807) (hdr : draw ≤ 9223372036854775807) :
    Calls Try.prog 19 #[.pointer (some ⟨g1, 0, none⟩), .pointer (some ⟨g2, 0, none⟩), .agg #[.int .i64 kind, .int .u32 G, .int .i64 ty, .int .i64 mx, .int .u32 grp, .int .i64 draw, .int .i64 by_], .int .i64 now] w (DoesE w0 w g1 g2) := by
  obtain ⟨W0, hW0⟩ : ∃ W0, w.alloc (.cells #[.int .i64 kind, .int .u32 G, .int .i64 ty, .int .i64 mx, .int .u32 grp, .int .i64 draw, .int .i64 by_] 52) = W0 := ⟨_, rfl⟩
  have OB : Hid (Ob W0 w.heap.size 52 #[.int .i64 kind, .int .u32 G, .int .i64 ty, .int .i64 mx, .int .u32 grp, .int .i64 draw, .int .i64 by_]) := hid (by rw [← hW0]; exact Ob.new _ _ _)
  have oX : Only [] w W0 := by rw [← hW0]; exact (Only.refl [] w).alloc _
  have H := hid (h.nil oX); have Q := hid (ho.trans oX); have K0 := hid (KeepA.nil oX)
  have HXF : Hid (w.heap.size ∉ F) := hid (fun hm => by have := h.hi.lt _ hm; omega)
  have HXD : Hid (w.heap.size ∉ g2 :: v.ownBlock.toList) := hid (fun hm => by
    rcases List.mem_cons.1 hm with h1 | h1
    · have := h.di.ob.lt; omega
    · have := (own_lt h.di.own _ (by simpa using h1)).2; omega)
  have HG2 : Hid (g2 < W0.heap.size) := hid (H.out.di.ob.lt)
  have HVB : Hid (∀ k, v.ownBlock = some k → k < W0.heap.size) := hid (fun k e => (own_lt H.out.di.own k e).2)
  have HRS := hid H.out.hi.rise; have HLN : Hid (D.length ≤ 16) := hid (by have := H.out.hi.len; rwa [List.length_map] at this)
  have hn2 : -9223372036854775808 ≤ now ∧ now ≤ 9223372036854775807 := by omega
  have HSZ := hid Q.out.size
  clear h ho oX
  have hln := HLN.out
  have z1 : (kind == 1) = false := by simpa using hk.1
  have z2 : (kind == 2) = false := by simpa using hk.2.1
  have z3 : (kind == 3) = false := by simpa using hk.2.2
  clear hk
  go_enter Try.func19, Try.ntmps19
  have e0 := OB.out.cell 0; have e1 := OB.out.cell 1; have e2 := OB.out.cell 2; have e3 := OB.out.cell 3; have e4 := OB.out.cell 4; have e5 := OB.out.cell 5
  go_wp2_with fail
  clear e0 e1 e2 e3 e4 e5
  refine (tickH W0 w0.heap.size g1 F _ now H.out.hi).mono ?_
  rintro x w3 ⟨A, c, F3, rfl, hr, hfr, hs⟩
  have HR := hid hr; have HFR := hid hfr
  clear hr hfr
  have HXL : Hid ((rptS now (D.map Dm.ab)).length ≤ 16) := hid (Nat.le_trans (rpt_len now _) (by rw [List.length_map]; exact hln))
  obtain ⟨X, hX⟩ : ∃ X, rptS now (D.map Dm.ab) = X := ⟨_, rfl⟩
  have HX := hid hX
  rw [hX] at HR HXL ⊢
  obtain ⟨nx, hnx⟩ : ∃ nx, X.length = nx := ⟨_, rfl⟩
  have HNX := hid hnx
  rw [hnx] at HR HXL ⊢
  clear hX hnx
  have H3 := hid (H.out.left hs); have Q3 := hid (H.out.quietL hs Q.out); have K3 := hid (K0.out.trans (H.out.keepL hs))
  clear hs
  go_wp2_with fail
  refine (tickD w3 w0.heap.size g2 v D now H3.out.di hln).mono ?_
  rintro x w4 ⟨v4, rfl, hv4, hd4, o4⟩
  have hs4 : DStp w3 w0.heap.size g2 v w4 v (D.map (Dm.tk now)) := ⟨hd4, .inl rfl, o4.more (fun j hj => List.mem_cons_of_mem _ hj)⟩
  have H4 := hid (H3.out.right hs4); have Q4 := hid (H3.out.quietR hs4 Q3.out); have K4 := hid (K3.out.trans (H3.out.keepR hs4))
  have HAB := hid (dtick_ab now D)
  rw [HX.out] at hv4
  rw [HNX.out] at hv4
  obtain ⟨A4, c4, e4, -, -, -, r4, -, -⟩ := RdS.of_own hv4 (rws_one ign_one _)
  subst e4
  have R4 := hid (H3.out.row hs4 HG2.out HVB.out HR.out HFR.out)
  have RA := hid (msg_ign X ▸ R4.out); have RB := hid (msg_ign X ▸ r4)
  have hxl := HXL.out
  clear hs4 hd4 o4 hv4 r4 R4 HR HFR
  go_wp2_with fail
  refine (messages1 w4 A A4 nx c c4 _ RA.out RB.out (by rw [List.length_map]; exact HNX.out) (by omega)).mono ?_
  rintro x w5 ⟨rfl, o5⟩
  have H5 := hid (H4.out.nil o5); have Q5 := hid (Q4.out.trans o5); have K5 := hid (K4.out.trans (KeepA.nil o5))
  clear o5
  go_wp2_with fail
  go_ret
  have h9 := H5.out
  rw [← HAB.out] at h9
  exact ⟨rfl, ⟨_, _, D.map (Dm.tk now), h9⟩, Q5.out, K5.out⟩
theorem does1 (w0 w : World) (g1 g2 : Nat) (F : List Nat) (v : Value) (D : List Dm) (kind G ty mx grp draw by_ now : Int) (h : PJ w0 w g1 g2 F (D.map Dm.ab) v D) (ho : Only [] w0 w) (hnow : 0 ≤ now ∧ now ≤ 9223372036854775807) (hdr : draw ≤ 9223372036854775807) :
    Calls Try.prog 19 #[.pointer (some ⟨g1, 0, none⟩), .pointer (some ⟨g2, 0, none⟩), .agg #[.int .i64 kind, .int .u32 G, .int .i64 ty, .int .i64 mx, .int .u32 grp, .int .i64 draw, .int .i64 by_], .int .i64 now] w (DoesE w0 w g1 g2) := by
  by_cases h1 : kind = 1
  · exact doesJ w0 w g1 g2 F v D kind G ty mx grp draw by_ now h ho h1 hnow hdr
  · by_cases h2 : kind = 2
    · exact doesL w0 w g1 g2 F v D kind G ty mx grp draw by_ now h ho h2 hnow hdr
    · by_cases h3 : kind = 3
      · exact doesH w0 w g1 g2 F v D kind G ty mx grp draw by_ now h ho h3 hnow hdr
      · exact doesT w0 w g1 g2 F v D kind G ty mx grp draw by_ now h ho ⟨h1, h2, h3⟩ hnow hdr
end Go.Proofs.Ytodcjokafjdhdaa.igm
