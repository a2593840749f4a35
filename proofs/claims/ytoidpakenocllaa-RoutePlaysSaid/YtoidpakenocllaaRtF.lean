/-
  Chapter 8 (route): Find in a tree, by a walk of the program's text. Conditions: none but those typed.
-/
import Derived.Test.YtoidpakenocllaaRtC
namespace Go.Proofs.Ytoidpakenocllaa.rou
set_option linter.unusedVariables false
set_option linter.unusedSimpArgs false
open Go.ChangeShapes Go.WideShapes Go.ChangeAt Go.RowKit Go.IntWalk Go.Lib
def Rt.val (r : Rt) : Value := .agg #[.int .u32 r.net, .int .i64 r.bits, .int .u32 r.via, .int .i64 r.met]
/-- What is found: of what fits the first one. -/
def Fnd (D : List Rt) (a : Int) (e : Int) (v : Value) : Prop := (e = 7 ∧ v = .agg #[.int .u32 0, .int .i64 0, .int .u32 0, .int .i64 0] ∧ ∀ y ∈ D, ¬ Fts y a) ∨ ∃ r, e = 0 ∧ v = r.val ∧ r ∈ D ∧ Fts r a ∧ ∀ y ∈ D, Fts y a → ¬ Ahd y r
def FndE (t : Tr) (a : Int) (w : World) (x : Ending) (w' : World) : Prop := (∃ v e, x = .returned (.tuple #[v, .int .i64 e]) ∧ Fnd t.all a e v) ∧ Only [] w w'
/-- The best so far, of those of fewer bits. -/
def Bst (base : Nat) (t : Tr) (a : Int) (w : World) (k : Nat) (pb : Option Addr) : Prop :=
  (pb = none ∧ ∀ y ∈ t.all, Fts y a → (k : Int) ≤ y.bits) ∨ ∃ nb n0 n1 gb n c r R, pb = some ⟨nb, 0, none⟩ ∧ Ob w nb 58 #[n0, n1, .slice (some ⟨gb, 0, none⟩) n c] ∧ 1 ≤ n ∧ (∀ j u, (Rt.enc r)[j]? = some u → w.cell? ⟨gb, j, none⟩ = some u) ∧ gb < w.heap.size ∧ r ∈ t.all ∧ Fts r a ∧ r.bits < (k : Int) ∧ (∀ y ∈ t.all, Fts y a → y.bits < (k : Int) → ¬ Ahd y r) ∧ R = ()
theorem Bst.keep {base : Nat} {t : Tr} {a : Int} {w w' : World} {k : Nat} {pb : Option Addr} (h : Bst base t a w k pb) (o : Only [] w w') : Bst base t a w' k pb := by
  rcases h with h | ⟨nb, n0, n1, gb, n, c, r, R, h1, h2, h3, h4, h5, h6⟩
  · exact .inl h
  · exact .inr ⟨nb, n0, n1, gb, n, c, r, R, h1, h2.only o (by simp), h3, fun j u hj => o.keep (h4 j u hj), Nat.lt_of_lt_of_le h5 o.size, h6⟩
theorem Bst.skip {base : Nat} {t s : Tr} {a : Int} {w : World} {k : Nat} {pb : Option Addr} (h : Bst base t a w k pb) (hs : ∀ y ∈ t.all, Fts y a → y.bits ≠ (k : Int)) : Bst base t a w (k + 1) pb := by
  rcases h with ⟨h, h2⟩ | ⟨nb, n0, n1, gb, n, c, r, R, h1, h2, h3, h4, h5, h6, h7, h8, h9, hR⟩
  · exact .inl ⟨h, fun y hy hf => by have := h2 y hy hf; have := hs y hy hf; omega⟩
  · exact .inr ⟨nb, n0, n1, gb, n, c, r, R, h1, h2, h3, h4, h5, h6, h7, by omega, fun y hy hf hl => h9 y hy hf (by have := hs y hy hf; omega), hR⟩
/-- A node that has routes is better than all above it. -/
theorem Bst.take {base : Nat} {t : Tr} {a : Int} {w : World} {k nb : Nat} {pb : Option Addr} {v : Value} {L : List Rt} {l rr : Tr} (h : Bst base t a w k pb) (hm : (Tr.nd nb v L l rr).okm base w) (hw : (Tr.nd nb v L l rr).wf k (pre a k)) (hsub : ∀ y ∈ (Tr.nd nb v L l rr).all, y ∈ t.all) (hin : ∀ y ∈ t.all, Fts y a → (k : Int) ≤ y.bits → y ∈ (Tr.nd nb v L l rr).all) (hL : 0 < L.length) : Bst base t a w (k + 1) (some ⟨nb, 0, none⟩) := by
  obtain ⟨h0, h1, h2, h3, h4⟩ := hm
  obtain ⟨w0, w1, w2, w3, w4⟩ := id hw
  obtain ⟨A, c, rfl, _, _, _, hr, _, hA⟩ := RdS.of_own h2 (rws_one enc_one _)
  obtain ⟨gb, off, e, hgb, hc⟩ := hr.elem rfl enc_len (by omega) 0 hL
  have hoff : off = 0 := by
    rcases hA with hA | ⟨b, hA⟩
    · rw [hA] at e; cases e
    · rw [hA] at e; injection e with e; injection e with _ e; exact e.symm
  subst hoff
  subst e
  have hm0 : L[0] ∈ L := List.getElem_mem hL
  obtain ⟨x1, x2, x3⟩ := w2 _ hm0
  have hk : (L[0].bits).toNat = k := by omega
  refine .inr ⟨nb, l.ptr, rr.ptr, gb, L.length, c, L[0], (), rfl, h1, hL, fun j u hj => ?_, hgb, hsub _ (by simp only [Tr.all, List.mem_append]; exact .inl (.inl hm0)), ?_, by omega, fun y hy hf hl hA => ?_, rfl⟩
  · have := hc j u hj
    rwa [Nat.zero_mul, Nat.add_zero, Nat.zero_add] at this
  · unfold Fts; rw [hk, x3]
  · by_cases hb : y.bits = (k : Int)
    · have hyL := Tr.here hw (hin y hy hf (by omega)) hb
      obtain ⟨y1, y2, y3⟩ := w2 y hyL
      obtain ⟨i, hi, rfl⟩ := List.getElem_of_mem hyL
      have hnet : L[i].net = L[0].net := by
        have e1 := y1.nt; have e2 := x1.nt
        rw [show L[i].bits.toNat = k from by omega, y3] at e1
        rw [hk, x3] at e2
        rw [e1, e2]
      rcases Nat.eq_zero_or_pos i with h9 | h9
      · subst h9; exact Ahd.asym hA hA
      · have := w1.lt hi h9
        unfold Ahd at hA; omega
    · unfold Ahd at hA; omega
theorem Bst.done {base : Nat} {t : Tr} {a : Int} {w : World} {k : Nat} {pb : Option Addr} (h : Bst base t a w k pb) (hno : ∀ y ∈ t.all, Fts y a → y.bits < (k : Int)) :
    (pb = none ∧ ∀ y ∈ t.all, ¬ Fts y a) ∨ ∃ nb n0 n1 gb n c r R, pb = some ⟨nb, 0, none⟩ ∧ Ob w nb 58 #[n0, n1, .slice (some ⟨gb, 0, none⟩) n c] ∧ 1 ≤ n ∧ (∀ j u, (Rt.enc r)[j]? = some u → w.cell? ⟨gb, j, none⟩ = some u) ∧ gb < w.heap.size ∧ (r ∈ t.all ∧ Fts r a ∧ ∀ y ∈ t.all, Fts y a → ¬ Ahd y r) ∧ R = () := by
  rcases h with ⟨h, h2⟩ | ⟨nb, n0, n1, gb, n, c, r, R, h1, h2, h3, h4, h5, h6, h7, h8, h9, hR⟩
  · exact .inl ⟨h, fun y hy hf => by have := h2 y hy hf; have := hno y hy hf; omega⟩
  · exact .inr ⟨nb, n0, n1, gb, n, c, r, R, h1, h2, h3, h4, h5, ⟨h6, h7, fun y hy hf => h9 y hy hf (hno y hy hf)⟩, hR⟩
theorem fts_pre {x : Rt} {a : Int} {k : Nat} (hx : x.ok) (h : Fts x a) (hk : (k : Int) ≤ x.bits) : pre x.net k = pre a k := by
  have hb := hx.b1
  have h1 : pre x.net (k + (x.bits.toNat - k)) = pre a (k + (x.bits.toNat - k)) := by
    rw [show k + (x.bits.toNat - k) = x.bits.toNat from by omega]; exact h.symm
  exact pre_le (x.bits.toNat - k) (by omega) h1
set_option maxRecDepth 100000 in
set_option maxHeartbeats 4000000 in
theorem findT (w : World) (base g : Nat) (t : Tr) (cnt a : Int) (ho : Ob w g 26 #[t.ptr, .int .i64 cnt]) (hm : t.okm base w) (hw : t.wf 0 0) (ha : 0 ≤ a ∧ a ≤ 4294967295) :
    Calls Try.prog 12 #[.pointer (some ⟨g, 0, none⟩), .int .u32 a] w (FndE t a w) := by
  have HM := hid hm; have HW := hid hw
  have k0 := ho.cell 0
  have OR : Hid (Ob (w.alloc (.cells #[.int .u32 0, .int .i64 0, .int .u32 0, .int .i64 0] 34)) w.heap.size 34 #[.int .u32 0, .int .i64 0, .int .u32 0, .int .i64 0]) := hid (Ob.new _ _ _)
  have QB : Hid (Only [] w (w.alloc (.cells #[.int .u32 0, .int .i64 0, .int .u32 0, .int .i64 0] 34))) := hid ((Only.refl [] w).alloc _)
  obtain ⟨W0, hW0⟩ : ∃ W0, w.alloc (.cells #[.int .u32 0, .int .i64 0, .int .u32 0, .int .i64 0] 34) = W0 := ⟨_, rfl⟩
  rw [hW0] at OR QB
  have k0 := QB.out.keep k0
  clear hm hw ho
  go_enter Try.func12, Try.ntmps12
  go_wp2_with fail
  clear k0
  go_loopw [6, 7, 8] (fun vb n i wr => ∃ (k : Nat) (s : Tr) (pb : Option Addr), vb = .pointer pb ∧ n = s.ptr ∧ i = .int .i64 k ∧ k ≤ 33 ∧ Hid (s.okm base wr) ∧ Hid (s.wf k (pre a k)) ∧ Hid (∀ y ∈ s.all, y ∈ t.all) ∧ Hid (∀ y ∈ t.all, Fts y a → (k : Int) ≤ y.bits → y ∈ s.all) ∧ Hid (Bst base t a wr k pb) ∧ Hid (Only [] W0 wr)) (fun _ _ i _ => 33 - (RowKit.intOf i).toNat)
  case atStart => exact ⟨0, t, none, rfl, rfl, rfl, by omega, hid (Tr.okm_nil HM.out QB.out), hid (by rw [pre_zero ha.1 ha.2]; exact HW.out), hid (fun y hy => hy), hid (fun y hy _ _ => hy), hid (.inl ⟨rfl, fun y hy _ => (Tr.all_ok HW.out y hy).1.b0⟩), hid (Only.refl _ _)⟩
  case round =>
    obtain ⟨k, s, pb, rfl, rfl, rfl, hk, HM1, HW1, HS1, HI1, HB1, Q1⟩ := hrel
    have OR1 := hid (OR.out.only Q1.out (by simp))
    have QB1 := hid (QB.out.trans Q1.out)
    cases s with
    | nil =>
      have HD := hid (HB1.out.done (fun y hy hf => by
        rcases Int.lt_or_le y.bits (k : Int) with h | h
        · exact h
        · have := HI1.out y hy hf h; simp [Tr.all] at this))
      rw [show Tr.ptr Tr.nil = Value.pointer none from rfl]
      rcases HD.out with ⟨rfl, hno⟩ | ⟨bb, b0, b1, gb, bn, bc, br, _, rfl, hbo, hb1, hbc, hgb, hbr, _⟩
      · have HNo := hid hno; clear hno HD
        go_wp2_with (refine wp_storeOb rfl 34 _ _ rfl _ _ rfl rfl _ _ OR1.out rfl (by kernel_rfl) (by simp [Value.oneCell']) (fun W5 hW5 => ?_); try simp only [Act.put, List.setIfInBounds_toArray, List.set_cons_zero, List.set_cons_succ]; have OR5 := hid (OR1.out.eq_all hW5 rfl); have QB5 := hid (QB1.out.eq_all hW5 (Or.inr (by simp))); clear hW5)
        have r0 := OR5.out.cell 0; have r1 := OR5.out.cell 1; have r2 := OR5.out.cell 2; have r3 := OR5.out.cell 3
        exact bodyPost_ret (v := .tuple #[.agg #[.int .u32 0, .int .i64 0, .int .u32 0, .int .i64 0], .int .i64 7]) (by simp [results, Try.results12, go_sem, *]) rfl ⟨⟨_, _, rfl, .inl ⟨rfl, rfl, HNo.out⟩⟩, QB5.out⟩
      · have HBr := hid hbr
        have HBC := hid hbc; have HBO := hid hbo
        clear hbr hbc hbo hgb HD
        obtain ⟨rn, rb, rv, rm⟩ := br
        have d0 := HBC.out 0 _ rfl; have d1 := HBC.out 1 _ rfl; have d2 := HBC.out 2 _ rfl; have d3 := HBC.out 3 _ rfl
        have e2 := HBO.out.cell 2
        have hb2 : (0 : Int) < (bn : Int) := by omega
        go_wp2_with (refine wp_storeOb rfl 34 _ _ rfl _ _ rfl rfl _ _ OR1.out rfl (by kernel_rfl) (by simp [Value.oneCell']) (fun W5 hW5 => ?_); try simp only [Act.put, List.setIfInBounds_toArray, List.set_cons_zero, List.set_cons_succ]; have OR5 := hid (OR1.out.eq_all hW5 rfl); have QB5 := hid (QB1.out.eq_all hW5 (Or.inr (by simp))); clear hW5)
        have r0 := OR5.out.cell 0; have r1 := OR5.out.cell 1; have r2 := OR5.out.cell 2; have r3 := OR5.out.cell 3
        exact bodyPost_ret (v := .tuple #[.agg #[.int .u32 rn, .int .i64 rb, .int .u32 rv, .int .i64 rm], .int .i64 0]) (by simp [results, Try.results12, go_sem, *]) rfl ⟨⟨_, _, rfl, .inr ⟨⟨rn, rb, rv, rm⟩, rfl, rfl, HBr.out⟩⟩, QB5.out⟩
    | nd nb v L l rr =>
      rw [show Tr.ptr (Tr.nd nb v L l rr) = Value.pointer (some ⟨nb, 0, none⟩) from rfl]
      have hk32 : k ≤ 32 := HW1.out.1
      obtain ⟨A, c, ev, _, _, _, _, _, _⟩ := RdS.of_own HM1.out.2.2.1 (rws_one enc_one _)
      have hob := HM1.out.2.1
      rw [ev] at hob
      have HOb := hid hob
      clear hob ev
      have f0 := HOb.out.cell 0; have f1 := HOb.out.cell 1; have f2 := HOb.out.cell 2
      obtain ⟨n, hn⟩ : ∃ n, L.length = n := ⟨_, rfl⟩
      rw [hn] at f2 HOb
      by_cases hL : 0 < n
      · have HB2 := hid (HB1.out.take HM1.out HW1.out HS1.out HI1.out (by omega))
        clear hn
        have hL2 : (0 : Int) < (n : Int) := by omega
        by_cases h32 : k = 32
        · subst h32
          have HD := hid (HB2.out.done (fun y hy hf => by have := (Tr.all_ok HW.out y hy).1.b1; omega))
          clear HB2 HB1
          rcases HD.out with ⟨e9, hno⟩ | ⟨bb, b0, b1, gb, bn, bc, br, _, e9, hbo, hb1, hbc, hgb, hbr, _⟩
          · cases e9
          · clear f0 f1 f2
            obtain rfl : nb = bb := by injection e9 with e9; injection e9
            have HBr := hid hbr
            have HBC := hid hbc; have HBO := hid hbo
            clear hbr hbc hbo hgb HD
            obtain ⟨rn, rb, rv, rm⟩ := br
            have d0 := HBC.out 0 _ rfl; have d1 := HBC.out 1 _ rfl; have d2 := HBC.out 2 _ rfl; have d3 := HBC.out 3 _ rfl
            have e2 := HBO.out.cell 2
            have hb2 : (0 : Int) < (bn : Int) := by omega
            go_wp2_with (refine wp_storeOb rfl 34 _ _ rfl _ _ rfl rfl _ _ OR1.out rfl (by kernel_rfl) (by simp [Value.oneCell']) (fun W5 hW5 => ?_); try simp only [Act.put, List.setIfInBounds_toArray, List.set_cons_zero, List.set_cons_succ]; have OR5 := hid (OR1.out.eq_all hW5 rfl); have QB5 := hid (QB1.out.eq_all hW5 (Or.inr (by simp))); clear hW5)
            have r0 := OR5.out.cell 0; have r1 := OR5.out.cell 1; have r2 := OR5.out.cell 2; have r3 := OR5.out.cell 3
            exact bodyPost_ret (v := .tuple #[.agg #[.int .u32 rn, .int .i64 rb, .int .u32 rv, .int .i64 rm], .int .i64 0]) (by simp [results, Try.results12, go_sem, *]) rfl ⟨⟨_, _, rfl, .inr ⟨⟨rn, rb, rv, rm⟩, rfl, rfl, HBr.out⟩⟩, QB5.out⟩
        · have hk31 : k < 32 := by omega
          have hk9 : ¬ (k : Int) = 32 := by omega
          go_wp2_with fail
          rcases bt_or a k with hz | hz
          · have hz : bt a k = 0 := hz
            have hz2 : (bt a k : Int) = 0 := hz
            refine wp_region_noPanic ?_
            refine rgn.regionT (R := Only []) (by kernel_rfl) (Only.refl []) (fun _ _ _ => Only.trans) (fun _ _ _ _ _ h => h) (.y 0 (.y 1 (.y 2 (.y 4 (.y 5 (.e 3 (.y 6 (.y 7 (.e 8 .z))))))))) (by kernel_rfl) (fun W hWd => ?_)
            have HWd := hid hWd; clear hWd
            have q8 : Only [] wr W := Only.eq_drew (Only.refl [] _) HWd.out
            have HObW := hid (HOb.out.only q8 (by simp)); have QW := hid (Q1.out.trans q8); have HMW := hid (Tr.okm_nil HM1.out q8); have HBW := hid (HB2.out.keep q8)
            clear HWd q8
            refine rgn.Walk.ys (v := ?_) rfl rfl rfl ?_ ?_
            rotate_left 1
            · intro W' hW'
              go_simp
              try with_reducible rfl
            try simp only [Act.put, List.setIfInBounds_toArray, List.set_cons_zero, List.set_cons_succ]
            refine rgn.Walk.ys (v := ?_) rfl rfl rfl ?_ ?_
            rotate_left 1
            · intro W' hW'
              go_simp
              try with_reducible rfl
            try simp only [Act.put, List.setIfInBounds_toArray, List.set_cons_zero, List.set_cons_succ]
            refine rgn.Walk.ys (v := ?_) rfl rfl rfl ?_ ?_
            rotate_left 1
            · intro W' hW'
              go_simp
              try with_reducible rfl
            try simp only [Act.put, List.setIfInBounds_toArray, List.set_cons_zero, List.set_cons_succ]
            refine rgn.Walk.ys (v := ?_) rfl rfl rfl ?_ ?_
            rotate_left 1
            · intro W' hW'
              go_simp
              try with_reducible rfl
            try simp only [Act.put, List.setIfInBounds_toArray, List.set_cons_zero, List.set_cons_succ]
            refine rgn.Walk.ys (v := ?_) rfl rfl rfl ?_ ?_
            rotate_left 1
            · intro W' hW'
              go_simp
              try with_reducible rfl
            try simp only [Act.put, List.setIfInBounds_toArray, List.set_cons_zero, List.set_cons_succ]
            refine rgn.Walk.es ?_
            refine rgn.stepE rfl rfl (fun K hK => ?_)
            go_simp
            refine (bit1 _ a k ha hk31).mono ?_
            rintro x w5 ⟨rfl, e5⟩
            subst e5
            refine hK _ _ (Only.refl _ _) ?_
            clear hK K
            try simp only [Act.put, List.setIfInBounds_toArray, List.set_cons_zero, List.set_cons_succ]
            refine rgn.Walk.ys (v := ?_) rfl rfl rfl ?_ ?_
            rotate_left 1
            · intro W' hW'
              have hz2 := hz2
              go_simp
              try with_reducible rfl
            try simp only [Act.put, List.setIfInBounds_toArray, List.set_cons_zero, List.set_cons_succ]
            refine rgn.Walk.ys (v := ?_) rfl rfl rfl ?_ ?_
            rotate_left 1
            · intro W' hW'
              have q0 := hW'.keep (HObW.out.cell 0)
              go_simp
              try with_reducible rfl
            try simp only [Act.put, List.setIfInBounds_toArray, List.set_cons_zero, List.set_cons_succ]
            refine rgn.Walk.es ?_
            refine rgn.stepE rfl rfl (fun K hK => ?_)
            go_simp
            refine hK _ _ ((Only.refl []) _) ?_
            clear hK K
            try simp only [Act.put, List.setIfInBounds_toArray, List.set_cons_zero, List.set_cons_succ]
            refine rgn.Walk.zs (NoPanic.normal ?_)
            have HMk : Hid (l.okm base W) := hid (by have := Tr.kid_okm HMW.out a k; unfold Tr.kid at this; rw [if_pos hz] at this; exact this)
            have HWk : Hid (l.wf (k + 1) (pre a (k + 1))) := hid (by have := Tr.kid_wf a HW1.out hk31; unfold Tr.kid at this; rw [if_pos hz] at this; exact this)
            have HSk : Hid (∀ y ∈ l.all, y ∈ t.all) := hid (fun y hy => HS1.out y (by simp only [Tr.all, List.mem_append]; exact .inl (.inr hy)))
            have HIk : Hid (∀ y ∈ t.all, Fts y a → ((k + 1 : Nat) : Int) ≤ y.bits → y ∈ l.all) := hid (fun y hy hf hb => by
              have := Tr.down HW1.out (HI1.out y hy hf (by omega)) (by omega) (fts_pre (Tr.all_ok HW.out y hy).1 hf hb)
              unfold Tr.kid at this; rw [if_pos hz] at this; exact this)
            clear hz hz2 f0 f1 f2 hk32 hL hL2 hk9
            go_wp2_with fail
            go_roundw
            case rel => exact ⟨k + 1, l, _, rfl, rfl, by first | rfl | go_num, by omega, HMk, HWk, HSk, HIk, HBW, QW⟩
            case measure => simp [RowKit.intOf]; omega
          · have hz : bt a k = 1 := hz
            have hz2 : (bt a k : Int) = 1 := hz
            refine wp_region_noPanic ?_
            refine rgn.regionT (R := Only []) (by kernel_rfl) (Only.refl []) (fun _ _ _ => Only.trans) (fun _ _ _ _ _ h => h) (.y 0 (.y 1 (.y 2 (.y 4 (.y 5 (.e 3 (.y 6 (.y 7 (.e 8 .z))))))))) (by kernel_rfl) (fun W hWd => ?_)
            have HWd := hid hWd; clear hWd
            have q8 : Only [] wr W := Only.eq_drew (Only.refl [] _) HWd.out
            have HObW := hid (HOb.out.only q8 (by simp)); have QW := hid (Q1.out.trans q8); have HMW := hid (Tr.okm_nil HM1.out q8); have HBW := hid (HB2.out.keep q8)
            clear HWd q8
            refine rgn.Walk.ys (v := ?_) rfl rfl rfl ?_ ?_
            rotate_left 1
            · intro W' hW'
              go_simp
              try with_reducible rfl
            try simp only [Act.put, List.setIfInBounds_toArray, List.set_cons_zero, List.set_cons_succ]
            refine rgn.Walk.ys (v := ?_) rfl rfl rfl ?_ ?_
            rotate_left 1
            · intro W' hW'
              go_simp
              try with_reducible rfl
            try simp only [Act.put, List.setIfInBounds_toArray, List.set_cons_zero, List.set_cons_succ]
            refine rgn.Walk.ys (v := ?_) rfl rfl rfl ?_ ?_
            rotate_left 1
            · intro W' hW'
              go_simp
              try with_reducible rfl
            try simp only [Act.put, List.setIfInBounds_toArray, List.set_cons_zero, List.set_cons_succ]
            refine rgn.Walk.ys (v := ?_) rfl rfl rfl ?_ ?_
            rotate_left 1
            · intro W' hW'
              go_simp
              try with_reducible rfl
            try simp only [Act.put, List.setIfInBounds_toArray, List.set_cons_zero, List.set_cons_succ]
            refine rgn.Walk.ys (v := ?_) rfl rfl rfl ?_ ?_
            rotate_left 1
            · intro W' hW'
              go_simp
              try with_reducible rfl
            try simp only [Act.put, List.setIfInBounds_toArray, List.set_cons_zero, List.set_cons_succ]
            refine rgn.Walk.es ?_
            refine rgn.stepE rfl rfl (fun K hK => ?_)
            go_simp
            refine (bit1 _ a k ha hk31).mono ?_
            rintro x w5 ⟨rfl, e5⟩
            subst e5
            refine hK _ _ (Only.refl _ _) ?_
            clear hK K
            try simp only [Act.put, List.setIfInBounds_toArray, List.set_cons_zero, List.set_cons_succ]
            refine rgn.Walk.ys (v := ?_) rfl rfl rfl ?_ ?_
            rotate_left 1
            · intro W' hW'
              have hz2 := hz2
              go_simp
              try with_reducible rfl
            try simp only [Act.put, List.setIfInBounds_toArray, List.set_cons_zero, List.set_cons_succ]
            refine rgn.Walk.ys (v := ?_) rfl rfl rfl ?_ ?_
            rotate_left 1
            · intro W' hW'
              have q0 := hW'.keep (HObW.out.cell 1)
              go_simp
              try with_reducible rfl
            try simp only [Act.put, List.setIfInBounds_toArray, List.set_cons_zero, List.set_cons_succ]
            refine rgn.Walk.es ?_
            refine rgn.stepE rfl rfl (fun K hK => ?_)
            go_simp
            refine hK _ _ ((Only.refl []) _) ?_
            clear hK K
            try simp only [Act.put, List.setIfInBounds_toArray, List.set_cons_zero, List.set_cons_succ]
            refine rgn.Walk.zs (NoPanic.normal ?_)
            have HMk : Hid (rr.okm base W) := hid (by have := Tr.kid_okm HMW.out a k; unfold Tr.kid at this; rw [if_neg (by omega)] at this; exact this)
            have HWk : Hid (rr.wf (k + 1) (pre a (k + 1))) := hid (by have := Tr.kid_wf a HW1.out hk31; unfold Tr.kid at this; rw [if_neg (by omega)] at this; exact this)
            have HSk : Hid (∀ y ∈ rr.all, y ∈ t.all) := hid (fun y hy => HS1.out y (by simp only [Tr.all, List.mem_append]; exact .inr hy))
            have HIk : Hid (∀ y ∈ t.all, Fts y a → ((k + 1 : Nat) : Int) ≤ y.bits → y ∈ rr.all) := hid (fun y hy hf hb => by
              have := Tr.down HW1.out (HI1.out y hy hf (by omega)) (by omega) (fts_pre (Tr.all_ok HW.out y hy).1 hf hb)
              unfold Tr.kid at this; rw [if_neg (by omega)] at this; exact this)
            clear hz hz2 f0 f1 f2 hk32 hL hL2 hk9
            go_wp2_with fail
            go_roundw
            case rel => exact ⟨k + 1, rr, _, rfl, rfl, by first | rfl | go_num, by omega, HMk, HWk, HSk, HIk, HBW, QW⟩
            case measure => simp [RowKit.intOf]; omega
      · have HB2 := hid (Bst.skip (s := t) HB1.out (fun y hy hf hb => by
          have := Tr.here HW1.out (HI1.out y hy hf (by omega)) hb
          rw [List.eq_nil_of_length_eq_zero (by omega : L.length = 0)] at this
          cases this))
        clear hn
        have hL2 : ¬ (0 : Int) < (n : Int) := by omega
        by_cases h32 : k = 32
        · subst h32
          have HD := hid (HB2.out.done (fun y hy hf => by have := (Tr.all_ok HW.out y hy).1.b1; omega))
          clear HB2 HB1
          rcases HD.out with ⟨rfl, hno⟩ | ⟨bb, b0, b1, gb, bn, bc, br, _, rfl, hbo, hb1, hbc, hgb, hbr, _⟩
          · have HNo := hid hno; clear hno HD
            go_wp2_with (refine wp_storeOb rfl 34 _ _ rfl _ _ rfl rfl _ _ OR1.out rfl (by kernel_rfl) (by simp [Value.oneCell']) (fun W5 hW5 => ?_); try simp only [Act.put, List.setIfInBounds_toArray, List.set_cons_zero, List.set_cons_succ]; have OR5 := hid (OR1.out.eq_all hW5 rfl); have QB5 := hid (QB1.out.eq_all hW5 (Or.inr (by simp))); clear hW5)
            have r0 := OR5.out.cell 0; have r1 := OR5.out.cell 1; have r2 := OR5.out.cell 2; have r3 := OR5.out.cell 3
            exact bodyPost_ret (v := .tuple #[.agg #[.int .u32 0, .int .i64 0, .int .u32 0, .int .i64 0], .int .i64 7]) (by simp [results, Try.results12, go_sem, *]) rfl ⟨⟨_, _, rfl, .inl ⟨rfl, rfl, HNo.out⟩⟩, QB5.out⟩
          · have HBr := hid hbr
            have HBC := hid hbc; have HBO := hid hbo
            clear hbr hbc hbo hgb HD
            obtain ⟨rn, rb, rv, rm⟩ := br
            have d0 := HBC.out 0 _ rfl; have d1 := HBC.out 1 _ rfl; have d2 := HBC.out 2 _ rfl; have d3 := HBC.out 3 _ rfl
            have e2 := HBO.out.cell 2
            have hb2 : (0 : Int) < (bn : Int) := by omega
            go_wp2_with (refine wp_storeOb rfl 34 _ _ rfl _ _ rfl rfl _ _ OR1.out rfl (by kernel_rfl) (by simp [Value.oneCell']) (fun W5 hW5 => ?_); try simp only [Act.put, List.setIfInBounds_toArray, List.set_cons_zero, List.set_cons_succ]; have OR5 := hid (OR1.out.eq_all hW5 rfl); have QB5 := hid (QB1.out.eq_all hW5 (Or.inr (by simp))); clear hW5)
            have r0 := OR5.out.cell 0; have r1 := OR5.out.cell 1; have r2 := OR5.out.cell 2; have r3 := OR5.out.cell 3
            exact bodyPost_ret (v := .tuple #[.agg #[.int .u32 rn, .int .i64 rb, .int .u32 rv, .int .i64 rm], .int .i64 0]) (by simp [results, Try.results12, go_sem, *]) rfl ⟨⟨_, _, rfl, .inr ⟨⟨rn, rb, rv, rm⟩, rfl, rfl, HBr.out⟩⟩, QB5.out⟩
        · have hk31 : k < 32 := by omega
          have hk9 : ¬ (k : Int) = 32 := by omega
          go_wp2_with fail
          rcases bt_or a k with hz | hz
          · have hz : bt a k = 0 := hz
            have hz2 : (bt a k : Int) = 0 := hz
            refine wp_region_noPanic ?_
            refine rgn.regionT (R := Only []) (by kernel_rfl) (Only.refl []) (fun _ _ _ => Only.trans) (fun _ _ _ _ _ h => h) (.y 0 (.y 1 (.y 2 (.y 4 (.y 5 (.e 3 (.y 6 (.y 7 (.e 8 .z))))))))) (by kernel_rfl) (fun W hWd => ?_)
            have HWd := hid hWd; clear hWd
            have q8 : Only [] wr W := Only.eq_drew (Only.refl [] _) HWd.out
            have HObW := hid (HOb.out.only q8 (by simp)); have QW := hid (Q1.out.trans q8); have HMW := hid (Tr.okm_nil HM1.out q8); have HBW := hid (HB2.out.keep q8)
            clear HWd q8
            refine rgn.Walk.ys (v := ?_) rfl rfl rfl ?_ ?_
            rotate_left 1
            · intro W' hW'
              go_simp
              try with_reducible rfl
            try simp only [Act.put, List.setIfInBounds_toArray, List.set_cons_zero, List.set_cons_succ]
            refine rgn.Walk.ys (v := ?_) rfl rfl rfl ?_ ?_
            rotate_left 1
            · intro W' hW'
              go_simp
              try with_reducible rfl
            try simp only [Act.put, List.setIfInBounds_toArray, List.set_cons_zero, List.set_cons_succ]
            refine rgn.Walk.ys (v := ?_) rfl rfl rfl ?_ ?_
            rotate_left 1
            · intro W' hW'
              go_simp
              try with_reducible rfl
            try simp only [Act.put, List.setIfInBounds_toArray, List.set_cons_zero, List.set_cons_succ]
            refine rgn.Walk.ys (v := ?_) rfl rfl rfl ?_ ?_
            rotate_left 1
            · intro W' hW'
              go_simp
              try with_reducible rfl
            try simp only [Act.put, List.setIfInBounds_toArray, List.set_cons_zero, List.set_cons_succ]
            refine rgn.Walk.ys (v := ?_) rfl rfl rfl ?_ ?_
            rotate_left 1
            · intro W' hW'
              go_simp
              try with_reducible rfl
            try simp only [Act.put, List.setIfInBounds_toArray, List.set_cons_zero, List.set_cons_succ]
            refine rgn.Walk.es ?_
            refine rgn.stepE rfl rfl (fun K hK => ?_)
            go_simp
            refine (bit1 _ a k ha hk31).mono ?_
            rintro x w5 ⟨rfl, e5⟩
            subst e5
            refine hK _ _ (Only.refl _ _) ?_
            clear hK K
            try simp only [Act.put, List.setIfInBounds_toArray, List.set_cons_zero, List.set_cons_succ]
            refine rgn.Walk.ys (v := ?_) rfl rfl rfl ?_ ?_
            rotate_left 1
            · intro W' hW'
              have hz2 := hz2
              go_simp
              try with_reducible rfl
            try simp only [Act.put, List.setIfInBounds_toArray, List.set_cons_zero, List.set_cons_succ]
            refine rgn.Walk.ys (v := ?_) rfl rfl rfl ?_ ?_
            rotate_left 1
            · intro W' hW'
              have q0 := hW'.keep (HObW.out.cell 0)
              go_simp
              try with_reducible rfl
            try simp only [Act.put, List.setIfInBounds_toArray, List.set_cons_zero, List.set_cons_succ]
            refine rgn.Walk.es ?_
            refine rgn.stepE rfl rfl (fun K hK => ?_)
            go_simp
            refine hK _ _ ((Only.refl []) _) ?_
            clear hK K
            try simp only [Act.put, List.setIfInBounds_toArray, List.set_cons_zero, List.set_cons_succ]
            refine rgn.Walk.zs (NoPanic.normal ?_)
            have HMk : Hid (l.okm base W) := hid (by have := Tr.kid_okm HMW.out a k; unfold Tr.kid at this; rw [if_pos hz] at this; exact this)
            have HWk : Hid (l.wf (k + 1) (pre a (k + 1))) := hid (by have := Tr.kid_wf a HW1.out hk31; unfold Tr.kid at this; rw [if_pos hz] at this; exact this)
            have HSk : Hid (∀ y ∈ l.all, y ∈ t.all) := hid (fun y hy => HS1.out y (by simp only [Tr.all, List.mem_append]; exact .inl (.inr hy)))
            have HIk : Hid (∀ y ∈ t.all, Fts y a → ((k + 1 : Nat) : Int) ≤ y.bits → y ∈ l.all) := hid (fun y hy hf hb => by
              have := Tr.down HW1.out (HI1.out y hy hf (by omega)) (by omega) (fts_pre (Tr.all_ok HW.out y hy).1 hf hb)
              unfold Tr.kid at this; rw [if_pos hz] at this; exact this)
            clear hz hz2 f0 f1 f2 hk32 hL hL2 hk9
            go_wp2_with fail
            go_roundw
            case rel => exact ⟨k + 1, l, pb, rfl, rfl, by first | rfl | go_num, by omega, HMk, HWk, HSk, HIk, HBW, QW⟩
            case measure => simp [RowKit.intOf]; omega
          · have hz : bt a k = 1 := hz
            have hz2 : (bt a k : Int) = 1 := hz
            refine wp_region_noPanic ?_
            refine rgn.regionT (R := Only []) (by kernel_rfl) (Only.refl []) (fun _ _ _ => Only.trans) (fun _ _ _ _ _ h => h) (.y 0 (.y 1 (.y 2 (.y 4 (.y 5 (.e 3 (.y 6 (.y 7 (.e 8 .z))))))))) (by kernel_rfl) (fun W hWd => ?_)
            have HWd := hid hWd; clear hWd
            have q8 : Only [] wr W := Only.eq_drew (Only.refl [] _) HWd.out
            have HObW := hid (HOb.out.only q8 (by simp)); have QW := hid (Q1.out.trans q8); have HMW := hid (Tr.okm_nil HM1.out q8); have HBW := hid (HB2.out.keep q8)
            clear HWd q8
            refine rgn.Walk.ys (v := ?_) rfl rfl rfl ?_ ?_
            rotate_left 1
            · intro W' hW'
              go_simp
              try with_reducible rfl
            try simp only [Act.put, List.setIfInBounds_toArray, List.set_cons_zero, List.set_cons_succ]
            refine rgn.Walk.ys (v := ?_) rfl rfl rfl ?_ ?_
            rotate_left 1
            · intro W' hW'
              go_simp
              try with_reducible rfl
            try simp only [Act.put, List.setIfInBounds_toArray, List.set_cons_zero, List.set_cons_succ]
            refine rgn.Walk.ys (v := ?_) rfl rfl rfl ?_ ?_
            rotate_left 1
            · intro W' hW'
              go_simp
              try with_reducible rfl
            try simp only [Act.put, List.setIfInBounds_toArray, List.set_cons_zero, List.set_cons_succ]
            refine rgn.Walk.ys (v := ?_) rfl rfl rfl ?_ ?_
            rotate_left 1
            · intro W' hW'
              go_simp
              try with_reducible rfl
            try simp only [Act.put, List.setIfInBounds_toArray, List.set_cons_zero, List.set_cons_succ]
            refine rgn.Walk.ys (v := ?_) rfl rfl rfl ?_ ?_
            rotate_left 1
            · intro W' hW'
              go_simp
              try with_reducible rfl
            try simp only [Act.put, List.setIfInBounds_toArray, List.set_cons_zero, List.set_cons_succ]
            refine rgn.Walk.es ?_
            refine rgn.stepE rfl rfl (fun K hK => ?_)
            go_simp
            refine (bit1 _ a k ha hk31).mono ?_
            rintro x w5 ⟨rfl, e5⟩
            subst e5
            refine hK _ _ (Only.refl _ _) ?_
            clear hK K
            try simp only [Act.put, List.setIfInBounds_toArray, List.set_cons_zero, List.set_cons_succ]
            refine rgn.Walk.ys (v := ?_) rfl rfl rfl ?_ ?_
            rotate_left 1
            · intro W' hW'
              have hz2 := hz2
              go_simp
              try with_reducible rfl
            try simp only [Act.put, List.setIfInBounds_toArray, List.set_cons_zero, List.set_cons_succ]
            refine rgn.Walk.ys (v := ?_) rfl rfl rfl ?_ ?_
            rotate_left 1
            · intro W' hW'
              have q0 := hW'.keep (HObW.out.cell 1)
              go_simp
              try with_reducible rfl
            try simp only [Act.put, List.setIfInBounds_toArray, List.set_cons_zero, List.set_cons_succ]
            refine rgn.Walk.es ?_
            refine rgn.stepE rfl rfl (fun K hK => ?_)
            go_simp
            refine hK _ _ ((Only.refl []) _) ?_
            clear hK K
            try simp only [Act.put, List.setIfInBounds_toArray, List.set_cons_zero, List.set_cons_succ]
            refine rgn.Walk.zs (NoPanic.normal ?_)
            have HMk : Hid (rr.okm base W) := hid (by have := Tr.kid_okm HMW.out a k; unfold Tr.kid at this; rw [if_neg (by omega)] at this; exact this)
            have HWk : Hid (rr.wf (k + 1) (pre a (k + 1))) := hid (by have := Tr.kid_wf a HW1.out hk31; unfold Tr.kid at this; rw [if_neg (by omega)] at this; exact this)
            have HSk : Hid (∀ y ∈ rr.all, y ∈ t.all) := hid (fun y hy => HS1.out y (by simp only [Tr.all, List.mem_append]; exact .inr hy))
            have HIk : Hid (∀ y ∈ t.all, Fts y a → ((k + 1 : Nat) : Int) ≤ y.bits → y ∈ rr.all) := hid (fun y hy hf hb => by
              have := Tr.down HW1.out (HI1.out y hy hf (by omega)) (by omega) (fts_pre (Tr.all_ok HW.out y hy).1 hf hb)
              unfold Tr.kid at this; rw [if_neg (by omega)] at this; exact this)
            clear hz hz2 f0 f1 f2 hk32 hL hL2 hk9
            go_wp2_with fail
            go_roundw
            case rel => exact ⟨k + 1, rr, pb, rfl, rfl, by first | rfl | go_num, by omega, HMk, HWk, HSk, HIk, HBW, QW⟩
            case measure => simp [RowKit.intOf]; omega
end Go.Proofs.Ytoidpakenocllaa.rou
