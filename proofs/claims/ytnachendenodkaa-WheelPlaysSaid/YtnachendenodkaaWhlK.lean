/-
  Chapter 3 (wheel): a script's step in both wheels, by a walk of its text. Conditions: none but those typed.
-/
import Derived.Test.YtnachendenodkaaWhlJ
import Derived.Deep.RegionHeld3
namespace Go.Proofs.Ytnachendenodkaa.whl
set_option linter.unusedVariables false
set_option linter.unusedSimpArgs false
open Go.ChangeShapes Go.WideShapes Go.ChangeAt Go.RowKit Go.IntWalk Go.Lib
abbrev TS : TypeId := 34
/-- Where a step may lead to. -/
def After (w0 : World) (g ge : Nat) (w' : World) : Prop := ∃ vs' A' c' L' D', JI w0 w' g ge vs' A' c' L' D' ∧ D'.Perm L' ∧ Srt D'
set_option maxRecDepth 100000 in
set_option maxHeartbeats 8000000 in
theorem does1 (w0 w : World) (g ge : Nat) (vs : List Value) (A : Option Addr) (c : Nat) (L D : List Tm) (hj : JI w0 w g ge vs A c L D) (hp : D.Perm L) (hs : Srt D) (key a : Int) (hk : (Lit.int .i64 key).wf = true) :
    Calls Try.prog 9 #[.pointer (some ⟨g, 0, none⟩), .pointer (some ⟨ge, 0, none⟩), .agg #[.int .i64 1, .int .i64 key, .int .i64 a]] w fun x w' => x = .returned (.bool true) ∧ After w0 g ge w' := by
  have HBx : Hid (Ob (w.alloc (.cells #[.int .i64 1, .int .i64 key, .int .i64 a] TS)) w.heap.size TS #[.int .i64 1, .int .i64 key, .int .i64 a]) := hid (Ob.new _ _ _)
  have HJ := hid (hj.only_nil ((Only.refl [] w).alloc (.cells #[.int .i64 1, .int .i64 key, .int .i64 a] TS)))
  have HP := hid hp; have HS := hid hs; have HK := hid hk
  have hw9 := wf_setS hj.wl hk (a := a)
  have HW := hid hw9
  have HPS := hid (setS_perm hp key a)
  have hnd : (keys D).Nodup := (hp.map Tm.k).nodup_iff.2 hj.v.key
  have hee := setE_perm hp key a
  have HCP := fun (W : World) (v' : List Value) (h : WV W g v' L) => setL W g v' L key a h
  have HCD := fun (W : World) (A' : Option Addr) (c' : Nat) (h : DV W ge A' c' D) => setD W ge A' c' D key a h hnd hs
  rw [hee] at HCD
  have HCP := hid HCP; have HCD := hid HCD
  clear hj hp hs hk hw9 hnd hee
  generalize setE L key a = e at *
  go_enter Try.func9, Try.ntmps9
  have k0 := HBx.out.cell 0
  go_wp2_with fail
  generalize w.alloc (.cells #[.int .i64 1, .int .i64 key, .int .i64 a] TS) = W at *
  clear k0
  have HBx := hid (Ob.drew HBx.out)
  have HJ := hid (HJ.out.only_nil ((Only.refl [] W).drew))
  have k1 := HBx.out.cell 1; have k2 := HBx.out.cell 2
  go_region_held3 (fun w' => w'.cell? ⟨w.heap.size, 1, none⟩ = some (.int .i64 key) ∧ w'.cell? ⟨w.heap.size, 2, none⟩ = some (.int .i64 a)) (go_keep) (first
    | (go_at_call 12; refine (HCP.out _ _ HJ.out.v).mono ?_; rintro x w4 ⟨rfl, n4⟩; obtain ⟨⟨v4, i4⟩, b4⟩ := HJ.out.P n4 HW.out; have HJ := hid i4; have HBx := hid (b4 _ _ _ (by decide) (by decide) HBx.out); clear b4 i4; clear n4; have k1 := HBx.out.cell 1; have k2 := HBx.out.cell 2)
    | (go_at_call 18; refine (HCD.out _ _ _ HJ.out.d).mono ?_; rintro x w4 ⟨rfl, D2, n4, s4, p4⟩; obtain ⟨⟨A4, c4, i4⟩, b4⟩ := HJ.out.R n4; have HJ := hid i4; have HBx := hid (b4 _ _ _ (by decide) HBx.out); have HS4 := hid s4; have HP4 := hid p4; clear b4 i4 s4 p4; clear n4; have k1 := HBx.out.cell 1; have k2 := HBx.out.cell 2))
  all_goals go_wp2
  all_goals go_ret
  all_goals exact ⟨rBool (by simp), _, _, _, _, _, HJ.out, HP4.out.trans HPS.out, HS4.out⟩
set_option maxRecDepth 100000 in
set_option maxHeartbeats 8000000 in
theorem does2 (w0 w : World) (g ge : Nat) (vs : List Value) (A : Option Addr) (c : Nat) (L D : List Tm) (hj : JI w0 w g ge vs A c L D) (hp : D.Perm L) (hs : Srt D) (key a : Int) (hk : (Lit.int .i64 key).wf = true) :
    Calls Try.prog 9 #[.pointer (some ⟨g, 0, none⟩), .pointer (some ⟨ge, 0, none⟩), .agg #[.int .i64 2, .int .i64 key, .int .i64 a]] w fun x w' => x = .returned (.bool true) ∧ After w0 g ge w' := by
  have HBx : Hid (Ob (w.alloc (.cells #[.int .i64 2, .int .i64 key, .int .i64 a] TS)) w.heap.size TS #[.int .i64 2, .int .i64 key, .int .i64 a]) := hid (Ob.new _ _ _)
  have HJ := hid (hj.only_nil ((Only.refl [] w).alloc (.cells #[.int .i64 2, .int .i64 key, .int .i64 a] TS)))
  have HP := hid hp; have HS := hid hs; have HK := hid hk
  have HW : Hid (∀ t ∈ rm L key, (Lit.int .i64 t.k).wf = true) := hid (fun t ht => hj.wl t (rm_not ht).1)
  have HPS := hid (rm_perm hp key)
  have HSS : Hid (Srt (rm D key)) := hid (hs.sublist List.filter_sublist)
  have hnd : (keys D).Nodup := (hp.map Tm.k).nodup_iff.2 hj.v.key
  have hee := has_perm hp key
  have HCP := fun (W : World) (v' : List Value) (h : WV W g v' L) => cancelL W g v' L key h
  have HCD := fun (W : World) (A' : Option Addr) (c' : Nat) (h : DV W ge A' c' D) => cancelD W ge A' c' D key h hnd
  rw [hee] at HCD
  have HCP := hid HCP; have HCD := hid HCD
  clear hj hp hs hk hnd hee
  generalize has L key = e at *
  generalize rm L key = L2 at *
  generalize rm D key = D2 at *
  go_enter Try.func9, Try.ntmps9
  have k0 := HBx.out.cell 0
  go_wp2_with fail
  generalize w.alloc (.cells #[.int .i64 2, .int .i64 key, .int .i64 a] TS) = W at *
  clear k0
  have HBx := hid (Ob.drew HBx.out)
  have HJ := hid (HJ.out.only_nil ((Only.refl [] W).drew))
  have k1 := HBx.out.cell 1
  go_region_held3 (fun w' => w'.cell? ⟨w.heap.size, 1, none⟩ = some (.int .i64 key)) (go_keep) (first
    | (go_at_call 16; refine (HCP.out _ _ HJ.out.v).mono ?_; rintro x w4 ⟨rfl, n4⟩; obtain ⟨⟨v4, i4⟩, b4⟩ := HJ.out.P n4 HW.out; have HJ := hid i4; have HBx := hid (b4 _ _ _ (by decide) (by decide) HBx.out); clear b4 i4; clear n4; have k1 := HBx.out.cell 1)
    | (go_at_call 19; refine (HCD.out _ _ _ HJ.out.d).mono ?_; rintro x w4 ⟨rfl, n4⟩; obtain ⟨⟨A4, c4, i4⟩, b4⟩ := HJ.out.R n4; have HJ := hid i4; have HBx := hid (b4 _ _ _ (by decide) HBx.out); clear b4 i4; clear n4; have k1 := HBx.out.cell 1))
  all_goals go_wp2
  all_goals go_ret
  all_goals exact ⟨rBool (by simp), _, _, _, _, _, HJ.out, HPS.out, HSS.out⟩
set_option maxRecDepth 100000 in
set_option maxHeartbeats 8000000 in
theorem does3 (w0 w : World) (g ge : Nat) (vs : List Value) (A : Option Addr) (c : Nat) (L D : List Tm) (hj : JI w0 w g ge vs A c L D) (hp : D.Perm L) (hs : Srt D) (key a : Int) (hk : (Lit.int .i64 key).wf = true) :
    Calls Try.prog 9 #[.pointer (some ⟨g, 0, none⟩), .pointer (some ⟨ge, 0, none⟩), .agg #[.int .i64 3, .int .i64 key, .int .i64 a]] w fun x w' => x = .returned (.bool true) ∧ After w0 g ge w' := by
  have HBx : Hid (Ob (w.alloc (.cells #[.int .i64 3, .int .i64 key, .int .i64 a] TS)) w.heap.size TS #[.int .i64 3, .int .i64 key, .int .i64 a]) := hid (Ob.new _ _ _)
  have HJ := hid (hj.only_nil ((Only.refl [] w).alloc (.cells #[.int .i64 3, .int .i64 key, .int .i64 a] TS)))
  have HP := hid hp; have HS := hid hs; have HK := hid hk
  have hnd := hj.v.key
  have HND := hid hnd
  have HCP := hid (fun (W : World) (v' : List Value) (h : WV W g v' L) => atL W g v' L key h)
  have HCD := hid (fun (W : World) (A' : Option Addr) (c' : Nat) (h : DV W ge A' c' D) => atD W ge A' c' D key h)
  clear hj hp hs hk hnd
  go_enter Try.func9, Try.ntmps9
  have k0 := HBx.out.cell 0; have k1 := HBx.out.cell 1; have k2 := HBx.out.cell 2
  go_wp2_with fail
  refine (HCP.out _ _ HJ.out.v).mono ?_
  rintro x w4 ⟨hx, o4⟩
  have HJ := hid (HJ.out.only_nil o4); have HBx := hid (HBx.out.only o4 (by simp))
  clear o4 k0 k1 k2
  have k0 := HBx.out.cell 0; have k1 := HBx.out.cell 1; have k2 := HBx.out.cell 2
  obtain ⟨r1, r2, rfl, hr⟩ : ∃ (r1 : Int) (r2 : Bool), x = .returned (.tuple #[.int .i64 r1, .bool r2]) ∧ ((r1 = 0 ∧ r2 = false ∧ has L key = false) ∨ ∃ t, t ∈ L ∧ t.k = key ∧ r1 = t.a ∧ r2 = true) := by
    rcases hx with ⟨rfl, h⟩ | ⟨t, h1, h2, rfl⟩
    · exact ⟨_, _, rfl, .inl ⟨rfl, rfl, h⟩⟩
    · exact ⟨_, _, rfl, .inr ⟨t, h1, h2, rfl, rfl⟩⟩
  have HR := hid hr
  clear hx hr
  go_wp2_with fail
  refine (HCD.out _ _ _ HJ.out.d).mono ?_
  rintro x w5 ⟨hx, o5⟩
  have HJ := hid (HJ.out.only_nil o5)
  clear o5 k0 k1 k2
  have hx2 : x = .returned (.tuple #[.int .i64 r1, .bool r2]) := by
    rcases hx with ⟨rfl, h⟩ | ⟨t, h1, h2, rfl⟩
    · rcases HR.out with ⟨rfl, rfl, _⟩ | ⟨u, u1, u2, _, _⟩
      · rfl
      · exact absurd (has_yes u1 u2) (by rw [← has_perm HP.out key, h]; simp)
    · rcases HR.out with ⟨_, _, h⟩ | ⟨u, u1, u2, rfl, rfl⟩
      · exact absurd (has_yes h1 h2) (by rw [has_perm HP.out key, h]; simp)
      · rw [key_one HND.out (HP.out.subset h1) u1 (h2.trans u2.symm)]
  subst hx2
  clear hx
  cases r2
  all_goals
    go_wp2
    go_ret
    exact ⟨rBool (by simp), _, _, _, _, _, HJ.out, HP.out, HS.out⟩
set_option maxRecDepth 100000 in
set_option maxHeartbeats 8000000 in
theorem does4 (w0 w : World) (g ge : Nat) (vs : List Value) (A : Option Addr) (c : Nat) (L D : List Tm) (hj : JI w0 w g ge vs A c L D) (hp : D.Perm L) (hs : Srt D) (key a : Int) (hk : (Lit.int .i64 key).wf = true) :
    Calls Try.prog 9 #[.pointer (some ⟨g, 0, none⟩), .pointer (some ⟨ge, 0, none⟩), .agg #[.int .i64 4, .int .i64 key, .int .i64 a]] w fun x w' => x = .returned (.bool true) ∧ After w0 g ge w' := by
  have HBx : Hid (Ob (w.alloc (.cells #[.int .i64 4, .int .i64 key, .int .i64 a] TS)) w.heap.size TS #[.int .i64 4, .int .i64 key, .int .i64 a]) := hid (Ob.new _ _ _)
  have HJ := hid (hj.only_nil ((Only.refl [] w).alloc (.cells #[.int .i64 4, .int .i64 key, .int .i64 a] TS)))
  have HP := hid hp; have HS := hid hs; have HK := hid hk
  have hnd := hj.v.key
  have hndD : (keys D).Nodup := (hp.map Tm.k).nodup_iff.2 hnd
  have hwD : ∀ t ∈ D, (Lit.int .i64 t.k).wf = true := fun t ht => hj.wl t (hp.subset ht)
  have HWE : Hid (∀ x ∈ keys (dues D a), (Lit.int .i64 x).wf = true) := hid (fun x hx => by obtain ⟨t, ht, rfl⟩ := List.mem_map.1 hx; exact hwD t (List.mem_filter.1 ht).1)
  have HWL : Hid (∀ t ∈ lates L a, (Lit.int .i64 t.k).wf = true) := hid (fun t ht => hj.wl t (List.mem_filter.1 ht).1)
  have HDet : Hid (∀ E : List Tm, E.Perm (dues L a) → (E.Pairwise fun x y => tlt y x = false) → E = dues D a) := hid (fun E h1 h2 => due_det h1 (hnd.sublist (List.Sublist.map _ List.filter_sublist)) h2 (hs.sublist List.filter_sublist) (hp.filter _))
  have HPL : Hid ((lates D a).Perm (lates L a)) := hid (hp.filter _)
  have HSL : Hid (Srt (lates D a)) := hid (hs.sublist List.filter_sublist)
  have HCP := hid (fun (W : World) (v' : List Value) (h : WV W g v' L) => dueL W g v' L a h)
  have HCD := hid (fun (W : World) (A' : Option Addr) (c' : Nat) (h : DV W ge A' c' D) => dueD W ge A' c' D a h hs hwD)
  have hlm : (dues D a).length ≤ 256 := Nat.le_trans (List.length_filter_le _ _) hj.d.most
  clear hj hp hs hk hnd hndD hwD
  go_enter Try.func9, Try.ntmps9
  have k0 := HBx.out.cell 0; have k1 := HBx.out.cell 1; have k2 := HBx.out.cell 2
  go_wp2_with fail
  refine (HCP.out _ _ HJ.out.v).mono ?_
  rintro x w4 ⟨E, b, rfl, h1, h2, h3, h4, vs', h5, h6, h7⟩
  obtain rfl := HDet.out E h1 h2
  have HOb := hid h4
  have hgl := HJ.out.v.r.ob.lt
  have hbl := hid (fun c (hc : c ∈ blocks vs') => (h6 c hc).2)
  obtain ⟨⟨v4, i4⟩, b4⟩ : (∃ v4, JI w0 w4 g ge v4 A c (lates L a) D ∧ b ∉ blocks v4) ∧ Ob w4 w.heap.size TS #[.int .i64 4, .int .i64 key, .int .i64 a] := by
    have o9 : Only (g :: blocks vs) _ w4 := h7.more (by simp)
    obtain ⟨_, b9⟩ := HJ.out.P ⟨vs', h5, fun c hc => (h6 c hc).1, o9⟩ HWL.out
    refine ⟨⟨vs', ⟨h5, HJ.out.d.only h7 (by simpa using HJ.out.gge.symm) (fun b2 off e hm => (HJ.out.dj b2 off e).2 (by simpa using hm)), HJ.out.o.fresh h7 (fun i hi => .inr (by rw [show i = g from by simpa using hi]; exact HJ.out.lg)), HJ.out.lg, HJ.out.le, fun c hc => (h6 c hc).1.elim (HJ.out.lv c) (Nat.le_trans HJ.out.o.size), HJ.out.la, fun b2 off e => ⟨fun hb2 => ?_, (HJ.out.dj b2 off e).2⟩, HWL.out⟩, fun hb2 => (h6 b hb2).2 rfl⟩, b9 _ _ _ (by decide) (by decide) HBx.out⟩
    rcases (h6 b2 hb2).1 with e2 | e2
    · exact (HJ.out.dj b2 off e).1 e2
    · have := HJ.out.d.lt b2 off e; omega
  have HJ0 := HJ
  have HbA : Hid (∀ b2 off, A = some ⟨b2, off, none⟩ → b2 ≠ b) := hid (fun b2 off e e2 => by have := HJ0.out.d.lt b2 off e; omega)
  have Hb0 : Hid (w0.heap.size ≤ b) := hid (Nat.le_trans HJ0.out.o.size h3)
  have HJ := hid i4.1; have Hbv := hid i4.2; have HBx := hid b4
  clear h1 h2 h3 h4 h5 h6 h7 i4 b4 k0 k1 k2 hbl HJ0 HCP HDet
  have k0 := HBx.out.cell 0; have k1 := HBx.out.cell 1; have k2 := HBx.out.cell 2
  go_wp2_with fail
  refine (HCD.out _ _ _ HJ.out.d).mono ?_
  rintro x w5 ⟨B, cB, rfl, hrd, n5⟩
  have HblW := hid HOb.out.lt
  have HOb5 : Hid (Ob w5 b 3 (rowV .i64 (keys (dues D a)))) := hid ((HJ.out.R n5).2 _ _ _ (by decide) HOb.out)
  have HbA5 : Hid (∃ A' c', JI w0 w5 g ge v4 A' c' (lates L a) (lates D a) ∧ ∀ b2 off, A' = some ⟨b2, off, none⟩ → b2 ≠ b) := hid (by
    obtain ⟨⟨A', c', i5⟩, _⟩ := HJ.out.R n5
    obtain ⟨A'', c'', q1, q2, q3⟩ := n5
    refine ⟨A'', c'', ⟨i5.v, q1, i5.o, i5.lg, i5.le, i5.lv, fun b2 off e => ?_, fun b2 off e => ?_, i5.wl⟩, fun b2 off e e2 => ?_⟩
    · rcases q2 b2 off e with ⟨o, e3⟩ | e3
      · exact HJ.out.la b2 o e3
      · exact Nat.le_trans HJ.out.o.size e3
    · rcases q2 b2 off e with ⟨o, e3⟩ | e3
      · exact HJ.out.dj b2 o e3
      · have hg := HJ.out.v.r.ob.lt
        exact ⟨fun hb => by have := blk_lt HJ.out.v.r hb; omega, by omega⟩
    · rcases q2 b2 off e with ⟨o, e3⟩ | e3
      · exact HbA.out b2 o e3 e2
      · have := HblW.out; omega)
  clear n5 k0 k1 k2
  obtain ⟨A5, c5, i5, hA5⟩ := HbA5.out
  have HJ := hid i5; have HA5 := hid hA5
  clear HbA5 i5 hA5
  obtain ⟨n, hn⟩ : ∃ n, (dues D a).length = n := ⟨_, rfl⟩
  have HN := hid hn
  rw [hn] at hrd hlm
  rw [hn]
  have HR1 : Hid (Rd .i64 w5 (some ⟨b, 0, none⟩) n (keys (dues D a))) := hid (rd_rowI HOb5.out (by rw [keys_len, hn]) HWE.out)
  have HR2 := hid hrd
  clear hrd hn
  go_wp2_with fail
  refine (ints1 _ _ _ n n n cB _ _ HR1.out HR2.out (by omega)).mono ?_
  rintro x w6 ⟨rfl, o6⟩
  have HJ := hid (HJ.out.only_nil o6)
  have HOb6 := hid (HOb5.out.only o6 (by simp))
  have hzl : Hid ((keys (dues D a)).length = n) := hid (by rw [keys_len, HN.out])
  clear o6 HR1 HR2 HOb5
  have e7 : decide (keys (dues D a) = keys (dues D a)) = true := by simp
  rw [e7]
  clear e7
  generalize keys (dues D a) = z at *
  go_wp2_with fail
  go_loopw [13] (fun i wr => ∃ (j : Nat) (z2 : List Int), j ≤ n ∧ i = .int .i64 j ∧ Hid (z2.length = n) ∧ Hid (Ob wr b 3 (rowV .i64 z2)) ∧ Hid (JI w0 wr g ge v4 A5 c5 (lates L a) (lates D a))) (fun i _ => n - (intOf i).toNat)
  case atStart => exact ⟨0, z, by omega, rfl, hzl, HOb6, HJ⟩
  case round =>
    clear HOb6 HJ
    obtain ⟨j, z2, hj, rfl, hz2, HO, HJ⟩ := hrel
    by_cases hlt : j < n
    · have c6 : wr.cell? ⟨b, j, none⟩ = some (.int .i64 (z2.getD j 0)) := by rw [HO.out.cell j, rowV_get .i64 z2 j (by rw [hz2.out]; exact hlt)]
      have f6 := HO.out.frozen j
      obtain ⟨zz, hzz⟩ : ∃ zz, z2.getD j 0 = zz := ⟨_, rfl⟩
      rw [hzz] at c6
      clear hzz
      go_wp2
      go_roundw
      case rel =>
        refine ⟨j + 1, z2.set j (-77), by omega, by go_num, hid (by rw [List.length_set]; exact hz2.out), hid (by rw [← rowV_set]; exact HO.out.set j _), hid ?_⟩
        have oo : Only [b] wr (wr.setCell ⟨b, j, none⟩ (.int .i64 (-77))) := (Only.refl _ _).setCell (p := ⟨b, j, none⟩) (.inl (by simp)) _
        have hgb : g ≠ b := ob_ne HJ.out.v.r.ob HO.out (by decide)
        have hgeb : ge ≠ b := ob_ne HJ.out.d.ob HO.out (by decide)
        exact ⟨HJ.out.v.only oo (by simpa using hgb) (fun c hc hm => Hbv.out (by rw [← show c = b from by simpa using hm]; exact hc)), HJ.out.d.only oo (by simpa using hgeb) (fun b2 off e hm => HA5.out b2 off e (by simpa using hm)), HJ.out.o.fresh oo (fun i hi => .inr (by rw [show i = b from by simpa using hi]; exact Hb0.out)), HJ.out.lg, HJ.out.le, HJ.out.lv, HJ.out.la, HJ.out.dj, HJ.out.wl⟩
      case measure => simp [intOf]; omega
    · obtain rfl : j = n := by omega
      go_wp2
      go_ret
      exact ⟨rfl, _, _, _, _, _, HJ.out, HPL.out, HSL.out⟩
set_option maxRecDepth 100000 in
set_option maxHeartbeats 8000000 in
theorem does5 (w0 w : World) (g ge : Nat) (vs : List Value) (A : Option Addr) (c : Nat) (L D : List Tm) (hj : JI w0 w g ge vs A c L D) (hp : D.Perm L) (hs : Srt D) (kd key a : Int) (hk : (Lit.int .i64 key).wf = true) (hkd : kd ≠ 1 ∧ kd ≠ 2 ∧ kd ≠ 3 ∧ kd ≠ 4) :
    Calls Try.prog 9 #[.pointer (some ⟨g, 0, none⟩), .pointer (some ⟨ge, 0, none⟩), .agg #[.int .i64 kd, .int .i64 key, .int .i64 a]] w fun x w' => x = .returned (.bool true) ∧ After w0 g ge w' := by
  have HBx : Hid (Ob (w.alloc (.cells #[.int .i64 kd, .int .i64 key, .int .i64 a] TS)) w.heap.size TS #[.int .i64 kd, .int .i64 key, .int .i64 a]) := hid (Ob.new _ _ _)
  have HJ := hid (hj.only_nil ((Only.refl [] w).alloc (.cells #[.int .i64 kd, .int .i64 key, .int .i64 a] TS)))
  have HP := hid hp; have HS := hid hs; have HK := hid hk
  have HCP := hid (fun (W : World) (v' : List Value) (h : WV W g v' L) => nextL W g v' L h)
  clear hj hp hs hk
  obtain ⟨h1, h2, h3, h4⟩ := hkd
  have d1 : (kd == 1) = false := by simpa using h1
  have d2 : (kd == 2) = false := by simpa using h2
  have d3 : (kd == 3) = false := by simpa using h3
  have d4 : (kd == 4) = false := by simpa using h4
  clear h1 h2 h3 h4
  go_enter Try.func9, Try.ntmps9
  have k0 := HBx.out.cell 0; have k1 := HBx.out.cell 1; have k2 := HBx.out.cell 2
  go_wp2_with fail
  refine (HCP.out _ _ HJ.out.v).mono ?_
  rintro x w4 ⟨hx, o4⟩
  have HJ := hid (HJ.out.only_nil o4)
  clear o4 k0 k1 k2
  have e0 := HJ.out.d.ob.cell 0
  rcases hx with ⟨hL, rfl⟩ | ⟨hL, n, hn, rfl⟩
  · have hD : D = [] := by have := HP.out; rw [hL] at this; exact this.eq_nil
    have e1 : w4.cell? ⟨ge, 0, none⟩ = some (.slice A 0 c) := by rw [hD] at e0; exact e0
    clear e0 hD hL
    go_wp2
    go_ret
    exact ⟨rBool (by simp), _, _, _, _, _, HJ.out, HP.out, HS.out⟩
  · obtain ⟨d, r, hD⟩ : ∃ d r, D = d :: r := by
      cases hD : D with
      | nil => exact absurd (by have := HP.out; rw [hD] at this; exact this.nil_eq.symm) hL
      | cons d r => exact ⟨d, r, rfl⟩
    have hdn : d.a = n := by
      have hdL : d ∈ L := HP.out.subset (by rw [hD]; simp)
      have h9 := hn.1 d hdL
      have h8 := (HJ.out.v.ran d hdL).2
      rcases hn.2 with e | ⟨t, ht, e⟩
      · omega
      · have ht2 : t ∈ d :: r := by rw [← hD]; exact HP.out.symm.subset ht
        rcases List.mem_cons.1 ht2 with rfl | ht3
        · exact e
        · have hs9 := HS.out
          rw [hD] at hs9
          have h7 := (List.pairwise_cons.1 hs9).1 t ht3
          rw [tlt_iff] at h7; omega
    obtain ⟨b, off, hA, hb, hc⟩ := (TRd.of HJ.out.d.rd).at_ (by rw [hD]; simp)
    obtain ⟨q0, q1⟩ := hc 0 (by rw [hD]; simp)
    have hgd : gt D 0 = d := by rw [hD]; rfl
    rw [hgd, hdn] at q1
    replace q1 : w4.cell? ⟨b, off + 1, none⟩ = some (.int .i64 n) := q1
    obtain ⟨m, hm⟩ : ∃ m, D.length = m + 1 := ⟨r.length, by rw [hD]; simp⟩
    have e1 : w4.cell? ⟨ge, 0, none⟩ = some (.slice (some ⟨b, off, none⟩) (m + 1) c) := by
      have e2 := e0
      rw [hm, hA] at e2; exact e2
    have hm0 : ((m : Int) + 1 == 0) = false := by simp; omega
    have hm1 : (0 : Int) < (m : Int) + 1 := by omega
    clear q0 hc hgd hdn hn hL hD e0 hA hm
    go_wp2
    go_ret
    exact ⟨rBool (by simp), _, _, _, _, _, HJ.out, HP.out, HS.out⟩
end Go.Proofs.Ytnachendenodkaa.whl
