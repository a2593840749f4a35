/-
  Chapter 21 (name): a record that was written is read as it, by a walk of record's text. Conditions: none but those typed.
-/
import Derived.Test.YtfoecnlbiaiibaaNamBb
import Derived.Test.YtfoecnlbiaiibaaRdr
import Derived.Test.YtfoecnlbiaiibaaStc
namespace Go.Proofs.Ytfoecnlbiaiibaa.nam
set_option linter.unusedVariables false
set_option linter.unusedSimpArgs false
open Go.ChangeShapes Go.WideShapes Go.ChangeAt Go.RowKit Go.IntWalk Go.Lib
theorem Same.of_only {S : List Nat} {g : Nat} {w w' : World} (h : Only S w w') (hg : g < w.heap.size) (hn : g ∉ S) : Same g w w' := h.block g hg hn
theorem Same.eq_all {g g' o : Nat} {w W : World} {vs : List Value} (e : W = w.setCells g' o vs) (hne : g ≠ g') : Same g w W := by
  subst e
  show (w.setCells g' o vs).heap[g]? = w.heap[g]?
  induction vs generalizing w o with
  | nil => rfl
  | cons v vs ih =>
    show ((w.setCell ⟨g', o, none⟩ v).setCells g' (o + 1) vs).heap[g]? = _
    rw [ih]
    exact heap_setCell_other w _ g v hne
theorem opStoreOb {P : Program} {o : Oper} {a : Act} {w : World} {K : Act → World → Prop} {Q : Exit → Act → World → Prop} (hgd : o.guard = none) (ty : TypeId) (x y : Operand) (ho : o.op = .store ty x y)
    (g : Nat) (vs : Array Value) (hx : a.eval x = .pointer (some ⟨g, 0, none⟩)) (hy : a.eval y = .agg vs) (cs : Array Value) (t : TypeId) (hb : Ob w g t cs)
    (hs : vs.size = cs.size) (hi : (P.info? ty).map (·.size) = some vs.size) (h1 : vs.all (·.oneCell') = true)
    (h : ∀ W, W = w.setCells g 0 vs.toList → K (a.put o.dst undef) W) : Oper.wp P o a w K Q :=
  wp_store_mid ty x y ho g 0 vs hx hy (hb.there hs) hi h1 (h _ rfl)
theorem K8.of_one {g : Nat} {w w' : World} {T : TypeId} {cs : Array Value} (o : Only [g] w w') (h : Ob w g T cs) (hT : T ≠ 5) : K8 w w' := K8.of_only o (fun k hk => .inr ⟨T, cs, hT, by rw [show k = g from by simpa using hk]; exact h⟩)
theorem num2 {x : Int} (h : 0 ≤ x ∧ x ≤ 65535) : rdr.num [x / 256 % 256, x % 256] = x := by
  show (0 * 256 + x / 256 % 256) * 256 + x % 256 = x
  omega
theorem num4 {x : Int} (h : 0 ≤ x ∧ x ≤ 2147483647) : rdr.num [x / 16777216 % 256, x / 65536 % 256, x / 256 % 256, x % 256] = x := by
  show (((0 * 256 + x / 16777216 % 256) * 256 + x / 65536 % 256) * 256 + x / 256 % 256) * 256 + x % 256 = x
  omega
theorem mid_of (x y z : List Int) : ((x ++ y ++ z).take (x.length + y.length)).drop x.length = y := by
  rw [List.take_append_of_le_length (by rw [List.length_append]; omega), ← List.length_append, List.take_length, List.drop_append_of_le_length (Nat.le_refl _), List.drop_length]
  rfl
set_option maxRecDepth 100000 in
set_option maxHeartbeats 8000000 in
theorem recQ (w : World) (b off n c : Nat) (B : List Int) (hB : Rd .u8 w (some ⟨b, off, none⟩) n B) (hnc : n ≤ c) (hcm : c ≤ maxLen) (hn : n ≤ 1000000000) (p : Nat) (pre rest : List Int) (r : Rc) (hp : pre.length = p) (hnm : isNm r.s = true) (hty : 0 ≤ r.ty ∧ r.ty ≤ 65535) (hcl : 0 ≤ r.cl ∧ r.cl ≤ 65535) (hBe : B = pre ++ hdB r ++ rest) :
    Calls Try.prog 52 #[.slice (some ⟨b, off, none⟩) n c, .int .i64 p, .bool false] w fun x w' => x = .returned (.tuple #[.agg #[.string r.s, .int .i64 r.ty, .int .i64 r.cl, .int .i64 0, .slice none 0 0], .int .i64 ((p + (hdB r).length : Nat) : Int), .int .i64 0]) ∧ Only [] w w' := by
  have hlen := hB.len
  have HBlt : Hid (b < w.heap.size) := hid (by
    have : 0 < n := by
      rw [← hlen, hBe]; unfold hdB; rw [hd_eq]; simp; omega
    obtain ⟨b', off', e', hb', _⟩ := hB.at_ this
    injection e' with e'; injection e' with e1 _; subst e1; exact hb')
  obtain ⟨s, ty, cl, ttl, rA, rn, rc, rd⟩ := r
  simp only at hnm hty hcl ⊢
  have HSB := hid (chs_back s)
  have hP := unp_name pre ([ty / 256 % 256, ty % 256, cl / 256 % 256, cl % 256] ++ rest) hnm
  have hH : hdB ⟨s, ty, cl, ttl, rA, rn, rc, rd⟩ = (packs (chs s)).1 ++ [ty / 256 % 256, ty % 256, cl / 256 % 256, cl % 256] := by unfold hdB; rw [hd_eq]; simp
  have hB2 : B = pre ++ (packs (chs s)).1 ++ ([ty / 256 % 256, ty % 256, cl / 256 % 256, cl % 256] ++ rest) := by rw [hBe, hH]; simp
  rw [← hB2, hp] at hP
  obtain ⟨a1, ha1⟩ : ∃ a1, p + (packs (chs s)).1.length = a1 := ⟨_, rfl⟩
  rw [ha1] at hP
  have HU := hid hP
  obtain ⟨l4, hl4⟩ : ∃ l4 : List Int, [ty / 256 % 256, ty % 256, cl / 256 % 256, cl % 256] = l4 := ⟨_, rfl⟩
  have HLen : Hid (l4.length = 4) := hid (by rw [← hl4]; rfl)
  have N1 : Hid (rdr.num (l4.take 2) = ty) := hid (by rw [← hl4]; exact num2 hty)
  have N2 : Hid (rdr.num ((l4.drop 2).take 2) = cl) := hid (by rw [← hl4]; exact num2 hcl)
  have hpl : (pre ++ (packs (chs s)).1).length = a1 := by rw [List.length_append, hp, ha1]
  have HL10 : Hid ((B.take (a1 + 4)).drop a1 = l4) := hid (by
    have h9 := mid_of (pre ++ (packs (chs s)).1) l4 rest
    rw [hpl, HLen.out] at h9
    rw [hB2, hl4, ← List.append_assoc]
    exact h9)
  have hE : a1 + 4 ≤ n := by rw [← hlen, hB2, List.length_append, hpl, List.length_append]; show a1 + 4 ≤ a1 + (4 + _); omega
  have HEnd : Hid (((p + (hdB ⟨s, ty, cl, ttl, rA, rn, rc, rd⟩).length : Nat) : Int) = (a1 : Int) + 4) := hid (by rw [hH, List.length_append, ← ha1]; show ((p + (_ + 4) : Nat) : Int) = _; omega)
  clear hP hl4 hpl hB2 hBe hH ha1 hlen hp hnm
  obtain ⟨W1, hW1⟩ : ∃ W1, w.alloc (.cells #[.string ⟨#[]⟩, .int .i64 0, .int .i64 0, .int .i64 0, .slice none 0 0] 46) = W1 := ⟨_, rfl⟩
  have OR : Hid (Ob W1 w.heap.size 46 #[.string ⟨#[]⟩, .int .i64 0, .int .i64 0, .int .i64 0, .slice none 0 0]) := hid (by rw [← hW1]; exact Ob.new _ _ _)
  have QB : Hid (Only [] w W1) := hid (by rw [← hW1]; exact (Only.refl [] w).alloc _)
  have HB := hid (hB.only_nil QB.out)
  have HCM := hid hcm
  unfold maxLen at hcm
  have g1 : ¬ (c : Int) = (a1 : Int) := by omega
  have g2 : (a1 : Int) ≤ (a1 : Int) + 4 := by omega
  have g3 : (a1 : Int) + 4 ≤ (c : Int) := by omega
  have g4 : ¬ (n : Int) < (a1 : Int) + 4 := by omega
  have g5 : (a1 : Int) + 4 ≤ (n : Int) := by omega
  have g6 : ((a1 : Int) + 4).toNat - a1 = 4 := by omega
  have g7 : min ((a1 : Int) + 4) (n : Int) = (a1 : Int) + 4 := by omega
  have HS0 : Hid (w.heap.size < W1.heap.size) := hid OR.out.lt
  clear hB hcm
  go_enter Try.func52, Try.ntmps52
  go_wp2_with fail
  refine (unpL2 W1 (some ⟨b, off, none⟩) n c B p HB.out hnc HCM.out hn).mono ?_
  rw [HU.out]
  rintro x w2 ⟨rfl, o2⟩
  rw [HSB.out]
  have HB := hid (HB.out.only_nil o2); have OR := hid (OR.out.only o2 (by simp)); have QB := hid (QB.out.trans o2)
  have HR10 : Hid (Rd .u8 w2 (some ⟨b, off + a1, none⟩) 4 l4) := hid (by
    have h9 := (HB.out.take (a1 + 4) (by omega)).drop a1 (by omega)
    rw [HL10.out, show a1 + 4 - a1 = 4 from by omega] at h9
    exact h9)
  clear o2
  have hlt0 := OR.out.lt
  go_wp2_with fail
  refine (rdr.new1 w2 (some ⟨b, off + a1, none⟩) 4 (c - a1) l4 HR10.out (by intro e; cases e) (by omega)).mono ?_
  rintro x w3 ⟨rr, e, pp, rfl, h3, o3⟩
  have hlow := h3.lows
  obtain ⟨hlo1, hlo2, hlo3, hlo4⟩ := hlow
  have hw2 := QB.out.size
  have RD := hid h3; have HB := hid (HB.out.only_nil o3); have OR := hid (OR.out.only o3 (by simp)); have QB := hid (QB.out.trans o3)
  clear h3 o3
  go_wp2_with fail
  refine (rdr.two_ok w3 _ _ rr e pp l4 RD.out (by rw [HLen.out]; omega)).mono ?_
  rintro x w4 ⟨rfl, h4, o4⟩
  rw [N1.out]
  have hz4 := o4.size
  have HB := hid (HB.out.only o4 (fun b' off' e' hb' hm => by have := HBlt.out; injection e' with e'; injection e' with e1 _; subst e1; simp at hm; omega))
  have RD := hid h4; have OR := hid (OR.out.only o4 (by simp; omega)); have QB0 := QB.out.size; have QB := hid (QB.out.fresh o4 (by simp; omega))
  clear h4 o4
  go_wp2_with fail
  refine (rdr.two_ok w4 _ _ rr e pp (l4.drop 2) RD.out (by rw [List.length_drop, HLen.out]; omega)).mono ?_
  rintro x w5 ⟨rfl, h5, o5⟩
  rw [N2.out]
  have hz5 := Nat.le_trans hz4 o5.size
  have HB := hid (HB.out.only o5 (fun b' off' e' hb' hm => by have := HBlt.out; injection e' with e'; injection e' with e1 _; subst e1; simp at hm; omega))
  have RD := hid h5; have OR := hid (OR.out.only o5 (by simp; omega)); have QB0 := QB.out.size; have QB := hid (QB.out.fresh o5 (by simp; omega))
  clear h5 o5
  have o6 : Only [] w5 (w5.alloc (.cells #[.string s, .int .i64 ty, .int .i64 cl, .int .i64 0, .slice none 0 0] 46)) := (Only.refl [] w5).alloc _
  have OM : Hid (Ob (w5.alloc (.cells #[.string s, .int .i64 ty, .int .i64 cl, .int .i64 0, .slice none 0 0] 46)) w5.heap.size 46 #[.string s, .int .i64 ty, .int .i64 cl, .int .i64 0, .slice none 0 0]) := hid (Ob.new _ _ _)
  have hlt5 := OR.out.lt
  have HB := hid (HB.out.only_nil o6); have RD := hid (RD.out.only_nil o6); have OR := hid (OR.out.only o6 (by simp)); have QB := hid (QB.out.trans o6)
  have hz6 := Nat.le_trans hz5 o6.size
  clear o6
  go_wp2_with fail
  refine wp_region_noPanic ?_
  refine rgn.regionT (R := Same w5.heap.size) (by kernel_rfl) (Same.refl w5.heap.size) (Same.trans (g := w5.heap.size)) (fun _ _ _ _ _ h => h) (.y 0 (.y 1 (.y 2 (.y 3 (.y 4 (.e 5 (.e 6 (.e 7 (.e 8 .z))))))))) (by kernel_rfl) (fun W hWd => ?_)
  have HWd := hid hWd; clear hWd
  have o9 := Only.eq_drew (Only.refl [] _) HWd.out
  have RD := hid (RD.out.only_nil o9); have OR := hid (OR.out.only o9 (by simp)); have OM := hid (OM.out.only o9 (by simp)); have QB := hid (QB.out.trans o9)
  have HM0 := OM
  clear HWd o9
  refine rgn.Walk.ys (v := ?_) rfl rfl rfl ?_ ?_
  rotate_left 1
  · intro W' hW'
    have q0 := (HM0.out.same hW').cell 0
    have q1 := (HM0.out.same hW').cell 1
    have q2 := (HM0.out.same hW').cell 2
    have q3 := (HM0.out.same hW').cell 3
    have q4 := (HM0.out.same hW').cell 4
    go_simp
    try with_reducible rfl
  try simp only [Act.put, List.setIfInBounds_toArray, List.set_cons_zero, List.set_cons_succ]
  refine rgn.Walk.ys (v := ?_) rfl rfl rfl ?_ ?_
  rotate_left 1
  · intro W' hW'
    go_simp
    try with_reducible rfl
  try simp only [Act.put, List.setIfInBounds_toArray, List.set_cons_zero, List.set_cons_succ]
  refine rgn.Walk.ys (v := ?_) rfl rfl rfl ?_ ?_
  rotate_left 1
  · intro W' hW'
    go_simp
    try with_reducible rfl
  try simp only [Act.put, List.setIfInBounds_toArray, List.set_cons_zero, List.set_cons_succ]
  refine rgn.Walk.ys (v := ?_) rfl rfl rfl ?_ ?_
  rotate_left 1
  · intro W' hW'
    go_simp
    try with_reducible rfl
  try simp only [Act.put, List.setIfInBounds_toArray, List.set_cons_zero, List.set_cons_succ]
  refine rgn.Walk.ys (v := ?_) rfl rfl rfl ?_ ?_
  rotate_left 1
  · intro W' hW'
    go_simp
    try with_reducible rfl
  try simp only [Act.put, List.setIfInBounds_toArray, List.set_cons_zero, List.set_cons_succ]
  refine rgn.Walk.es ?_
  refine rgn.stepE rfl rfl (fun K hK => ?_)
  go_simp
  refine (rdr.err_ok _ _ _ rr e pp _ RD.out).mono ?_
  rintro x w7 ⟨rfl, h7, o7⟩
  refine hK _ _ (Same.of_only o7 OM.out.lt (by simp; omega)) ?_
  clear hK K
  have OR := hid (OR.out.only o7 (by simp; omega)); have OM := hid (OM.out.only o7 (by simp; omega)); have QB := hid (QB.out.fresh o7 (by simp; omega))
  clear h7 o7
  try simp only [Act.put, List.setIfInBounds_toArray, List.set_cons_zero, List.set_cons_succ]
  refine rgn.Walk.es ?_
  refine rgn.stepE rfl rfl (fun K hK => ?_)
  refine opStoreOb rfl 46 (.tmp 6) (.tmp 45) rfl w.heap.size #[.string s, .int .i64 ty, .int .i64 cl, .int .i64 0, .slice none 0 0] rfl rfl _ _ OR.out rfl (by kernel_rfl) (by simp [Value.oneCell']) (fun W5 hW5 => ?_)
  refine hK _ _ (Same.eq_all hW5 (by omega)) ?_
  clear hK K
  have OR5 := hid (OR.out.eq_all hW5 rfl); have QB := hid (QB.out.eq_all hW5 (Or.inr (Nat.le_refl _)))
  clear hW5
  try simp only [Act.put, List.setIfInBounds_toArray, List.set_cons_zero, List.set_cons_succ]
  refine rgn.Walk.es ?_
  refine rgn.stepE rfl rfl (fun K hK => ?_)
  go_simp
  refine hK _ _ ((Same.refl w5.heap.size) _) ?_
  clear hK K
  try simp only [Act.put, List.setIfInBounds_toArray, List.set_cons_zero, List.set_cons_succ]
  refine rgn.Walk.es ?_
  refine rgn.stepE rfl rfl (fun K hK => ?_)
  go_simp
  refine hK _ _ ((Same.refl w5.heap.size) _) ?_
  clear hK K
  try simp only [Act.put, List.setIfInBounds_toArray, List.set_cons_zero, List.set_cons_succ]
  refine rgn.Walk.zs (NoPanic.normal ?_)
  go_wp2_with fail
  have r0 := OR5.out.cell 0; have r1 := OR5.out.cell 1; have r2 := OR5.out.cell 2; have r3 := OR5.out.cell 3; have r4 := OR5.out.cell 4
  have hw4 : IntKind.i64.wrap ((a1 : Int) + 4) = (a1 : Int) + 4 := i64_in _ (by omega)
  exact bodyPost_ret (v := .tuple #[.agg #[.string s, .int .i64 ty, .int .i64 cl, .int .i64 0, .slice none 0 0], .int .i64 ((a1 : Int) + 4), .int .i64 0]) (by simp [results, Try.results52, go_sem, *]) rfl ⟨by rw [HEnd.out], QB.out⟩
set_option maxRecDepth 100000 in
set_option maxHeartbeats 8000000 in
theorem recA (w : World) (b off n c : Nat) (B : List Int) (hB : Rd .u8 w (some ⟨b, off, none⟩) n B) (hnc : n ≤ c) (hcm : c ≤ maxLen) (hn : n ≤ 1000000000) (p : Nat) (pre rest : List Int) (r : Rc) (hp : pre.length = p) (hnm : isNm r.s = true) (hty : 0 ≤ r.ty ∧ r.ty ≤ 65535) (hcl : 0 ≤ r.cl ∧ r.cl ≤ 65535) (httl : 0 ≤ r.ttl ∧ r.ttl ≤ 2147483647) (hd5 : r.ty = 5 → isNm (strOfNums r.d) = true) (hf : r.ty = 1 → r.d.length = 4) (hdl : r.d.length ≤ 65535) (hdb : ∀ x ∈ r.d, 0 ≤ x ∧ x ≤ 255) (hBe : B = pre ++ ansB r ++ rest) :
    Calls Try.prog 52 #[.slice (some ⟨b, off, none⟩) n c, .int .i64 p, .bool true] w fun x w' => ∃ v, x = .returned (.tuple #[.agg #[.string r.s, .int .i64 r.ty, .int .i64 r.cl, .int .i64 r.ttl, v], .int .i64 ((p + (ansB r).length : Nat) : Int), .int .i64 0]) ∧ DB w' v r.d ∧ Only [] w w' := by
  have hlen := hB.len
  have HBlt : Hid (b < w.heap.size) := hid (by
    have : 0 < n := by
      rw [← hlen, hBe]; unfold ansB; simp; omega
    obtain ⟨b', off', e', hb', _⟩ := hB.at_ this
    injection e' with e'; injection e' with e1 _; subst e1; exact hb')
  obtain ⟨dl, hdl0⟩ : ∃ dl, (datB r).length = dl := ⟨_, rfl⟩
  have hdl1 : dl ≤ 65535 := by
    rw [← hdl0]
    by_cases h5 : r.ty = 5
    · rw [datB_cn h5]; have := packs_size r.d; omega
    · rw [datB_no h5]; exact hdl
  obtain ⟨l10, hl10⟩ : ∃ l10 : List Int, [r.ty / 256 % 256, r.ty % 256, r.cl / 256 % 256, r.cl % 256, r.ttl / 16777216 % 256, r.ttl / 65536 % 256, r.ttl / 256 % 256, r.ttl % 256, (dl : Int) / 256 % 256, (dl : Int) % 256] = l10 := ⟨_, rfl⟩
  have hA : ansB r = (packs (chs r.s)).1 ++ l10 ++ datB r := by unfold ansB hdB; rw [hd_eq, hdl0, ← hl10]; simp
  have hB2 : B = pre ++ (packs (chs r.s)).1 ++ (l10 ++ datB r ++ rest) := by rw [hBe, hA]; simp
  have hP := unp_name pre (l10 ++ datB r ++ rest) hnm
  rw [← hB2, hp] at hP
  obtain ⟨a1, ha1⟩ : ∃ a1, p + (packs (chs r.s)).1.length = a1 := ⟨_, rfl⟩
  rw [ha1] at hP
  have HLen : Hid (l10.length = 10) := hid (by rw [← hl10]; rfl)
  have N1 : Hid (rdr.num (l10.take 2) = r.ty) := hid (by rw [← hl10]; exact num2 hty)
  have N2 : Hid (rdr.num ((l10.drop 2).take 2) = r.cl) := hid (by rw [← hl10]; exact num2 hcl)
  have N3 : Hid (rdr.num (((l10.drop 2).drop 2).take 4) = r.ttl) := hid (by rw [← hl10]; exact num4 httl)
  have N4 : Hid (rdr.num ((((l10.drop 2).drop 2).drop 4).take 2) = (dl : Int)) := hid (by rw [← hl10]; exact num2 (by omega))
  have hpl : (pre ++ (packs (chs r.s)).1).length = a1 := by rw [List.length_append, hp, ha1]
  have hpl2 : (pre ++ (packs (chs r.s)).1 ++ l10).length = a1 + 10 := by rw [List.length_append, hpl, HLen.out]
  have HL10 : Hid ((B.take (a1 + 10)).drop a1 = l10) := hid (by
    have h9 := mid_of (pre ++ (packs (chs r.s)).1) l10 (datB r ++ rest)
    rw [hpl, HLen.out] at h9
    rw [hB2, List.append_assoc l10, ← List.append_assoc]
    exact h9)
  have hE : a1 + 10 + dl ≤ n := by rw [← hlen, hB2, List.length_append, hpl, List.length_append, List.length_append, HLen.out, hdl0]; omega
  have HE2 : Hid (a1 + 10 + dl ≤ n) := hid hE
  have HEnd : Hid (((p + (ansB r).length : Nat) : Int) = (a1 : Int) + 10 + dl) := hid (by rw [hA, List.length_append, List.length_append, HLen.out, hdl0, ← ha1]; omega)
  have HD1 : Hid (r.ty = 1 → a1 + 10 + dl = a1 + 10 + 4) := hid (fun h => by rw [← hdl0, datB_no (by omega), hf h])
  have HD5 : Hid (r.ty = 5 → unp B ((a1 + 10 : Nat) : Int) = (r.d, ((a1 + 10 + dl : Nat) : Int), 0) ∧ (∀ x ∈ r.d, 0 ≤ x ∧ x ≤ 255) ∧ r.d.length ≤ 253) := hid (fun h => by
    have hc : chs (strOfNums r.d) = r.d := chs_nums r.d hdb
    have h9 := unp_name (pre ++ (packs (chs r.s)).1 ++ l10) rest (hd5 h)
    rw [hc, ← datB_cn h, hpl2, hdl0] at h9
    refine ⟨?_, hdb, ?_⟩
    · rw [hB2]
      have e9 : pre ++ (packs (chs r.s)).1 ++ (l10 ++ datB r ++ rest) = pre ++ (packs (chs r.s)).1 ++ l10 ++ datB r ++ rest := by simp
      rw [e9]
      exact h9
    · have h8 := hd5 h
      rw [isNm_eq] at h8
      have h7 := (of_decide_eq_true h8).1
      rw [strOf_size] at h7
      exact h7)
  have HD0 : Hid (r.ty ≠ 5 → (B.take (a1 + 10 + dl)).drop (a1 + 10) = r.d) := hid (fun h => by
    have h9 := mid_of (pre ++ (packs (chs r.s)).1 ++ l10) (datB r) rest
    rw [hpl2, hdl0, datB_no h] at h9
    rw [hB2, datB_no h]
    have e9 : pre ++ (packs (chs r.s)).1 ++ (l10 ++ r.d ++ rest) = pre ++ (packs (chs r.s)).1 ++ l10 ++ r.d ++ rest := by simp
    rw [e9]
    exact h9)
  have HU := hid hP
  have HSB := hid (chs_back r.s)
  clear hP hl10 hpl hpl2 hB2 hBe hA ha1 hlen hp hnm hd5 hf hdb hdl0 hdl
  obtain ⟨s, hs⟩ : ∃ s, r.s = s := ⟨_, rfl⟩
  obtain ⟨ty, hty0⟩ : ∃ ty, r.ty = ty := ⟨_, rfl⟩
  obtain ⟨cl, hcl0⟩ : ∃ cl, r.cl = cl := ⟨_, rfl⟩
  obtain ⟨ttl, httl0⟩ : ∃ ttl, r.ttl = ttl := ⟨_, rfl⟩
  rw [hs] at HU HSB ⊢
  rw [hty0] at N1 HD1 HD5 HD0 hty ⊢
  rw [hcl0] at N2 hcl ⊢
  rw [httl0] at N3 httl ⊢
  have hgt : ¬ 2147483647 < ttl := by omega
  have hend : ¬ (n : Int) < (a1 : Int) + 10 + (dl : Int) := by omega
  clear hs hty0 hcl0 httl0
  obtain ⟨W1, hW1⟩ : ∃ W1, w.alloc (.cells #[.string ⟨#[]⟩, .int .i64 0, .int .i64 0, .int .i64 0, .slice none 0 0] 46) = W1 := ⟨_, rfl⟩
  have OR : Hid (Ob W1 w.heap.size 46 #[.string ⟨#[]⟩, .int .i64 0, .int .i64 0, .int .i64 0, .slice none 0 0]) := hid (by rw [← hW1]; exact Ob.new _ _ _)
  have QB : Hid (Only [] w W1) := hid (by rw [← hW1]; exact (Only.refl [] w).alloc _)
  have HB := hid (hB.only_nil QB.out)
  have HCM := hid hcm
  unfold maxLen at hcm
  have g1 : ¬ (c : Int) = (a1 : Int) := by omega
  have g2 : (a1 : Int) ≤ (a1 : Int) + 10 := by omega
  have g3 : (a1 : Int) + 10 ≤ (c : Int) := by omega
  have g4 : ¬ (n : Int) < (a1 : Int) + 10 := by omega
  have g5 : (a1 : Int) + 10 ≤ (n : Int) := by omega
  have g6 : ((a1 : Int) + 10).toNat - a1 = 10 := by omega
  have g7 : min ((a1 : Int) + 10) (n : Int) = (a1 : Int) + 10 := by omega
  have HS0 : Hid (w.heap.size < W1.heap.size) := hid OR.out.lt
  clear hB hcm
  go_enter Try.func52, Try.ntmps52
  go_wp2_with fail
  refine (unpL2 W1 (some ⟨b, off, none⟩) n c B p HB.out hnc HCM.out hn).mono ?_
  rw [HU.out]
  rintro x w2 ⟨rfl, o2⟩
  rw [HSB.out]
  have HB := hid (HB.out.only_nil o2); have OR := hid (OR.out.only o2 (by simp)); have QB := hid (QB.out.trans o2)
  have HR10 : Hid (Rd .u8 w2 (some ⟨b, off + a1, none⟩) 10 l10) := hid (by
    have h9 := (HB.out.take (a1 + 10) (by omega)).drop a1 (by omega)
    rw [HL10.out, show a1 + 10 - a1 = 10 from by omega] at h9
    exact h9)
  clear o2
  have hlt0 := OR.out.lt
  go_wp2_with fail
  refine (rdr.new1 w2 (some ⟨b, off + a1, none⟩) 10 (c - a1) l10 HR10.out (by intro e; cases e) (by omega)).mono ?_
  rintro x w3 ⟨rr, e, pp, rfl, h3, o3⟩
  have hlow := h3.lows
  obtain ⟨hlo1, hlo2, hlo3, hlo4⟩ := hlow
  have hw2 := QB.out.size
  have RD := hid h3; have HB := hid (HB.out.only_nil o3); have OR := hid (OR.out.only o3 (by simp)); have QB := hid (QB.out.trans o3)
  clear h3 o3
  go_wp2_with fail
  refine (rdr.two_ok w3 _ _ rr e pp l10 RD.out (by rw [HLen.out]; omega)).mono ?_
  rintro x w4 ⟨rfl, h4, o4⟩
  rw [N1.out]
  have hz4 := o4.size
  have HB := hid (HB.out.only o4 (fun b' off' e' hb' hm => by have := HBlt.out; injection e' with e'; injection e' with e1 _; subst e1; simp at hm; omega))
  have RD := hid h4; have OR := hid (OR.out.only o4 (by simp; omega)); have QB0 := QB.out.size; have QB := hid (QB.out.fresh o4 (by simp; omega))
  clear h4 o4
  go_wp2_with fail
  refine (rdr.two_ok w4 _ _ rr e pp (l10.drop 2) RD.out (by rw [List.length_drop, HLen.out]; omega)).mono ?_
  rintro x w5 ⟨rfl, h5, o5⟩
  rw [N2.out]
  have hz5 := Nat.le_trans hz4 o5.size
  have HB := hid (HB.out.only o5 (fun b' off' e' hb' hm => by have := HBlt.out; injection e' with e'; injection e' with e1 _; subst e1; simp at hm; omega))
  have RD := hid h5; have OR := hid (OR.out.only o5 (by simp; omega)); have QB0 := QB.out.size; have QB := hid (QB.out.fresh o5 (by simp; omega))
  clear h5 o5
  have o6 : Only [] w5 (w5.alloc (.cells #[.string s, .int .i64 ty, .int .i64 cl, .int .i64 0, .slice none 0 0] 46)) := (Only.refl [] w5).alloc _
  have OM : Hid (Ob (w5.alloc (.cells #[.string s, .int .i64 ty, .int .i64 cl, .int .i64 0, .slice none 0 0] 46)) w5.heap.size 46 #[.string s, .int .i64 ty, .int .i64 cl, .int .i64 0, .slice none 0 0]) := hid (Ob.new _ _ _)
  have hlt5 := OR.out.lt
  have HB := hid (HB.out.only_nil o6); have RD := hid (RD.out.only_nil o6); have OR := hid (OR.out.only o6 (by simp)); have QB := hid (QB.out.trans o6)
  have hz6 := Nat.le_trans hz5 o6.size
  clear o6
  have m3 := OM.out.cell 3; have f3 := OM.out.frozen 3
  go_wp2_with fail
  refine (rdr.four_ok _ _ _ rr e pp _ RD.out (by rw [List.length_drop, List.length_drop, HLen.out]; omega)).mono ?_
  rintro x w7 ⟨rfl, h7, o7⟩
  rw [N3.out]
  have HB := hid (HB.out.only o7 (fun b' off' e' hb' hm => by have := HBlt.out; injection e' with e'; injection e' with e1 _; subst e1; simp at hm; omega))
  have OM := hid (OM.out.only o7 (by simp; omega))
  have hz7 := Nat.le_trans hz6 o7.size
  have RD := hid h7; have OR := hid (OR.out.only o7 (by simp; omega)); have QB0 := QB.out.size; have QB := hid (QB.out.fresh o7 (by simp; omega))
  clear h7 o7
  clear m3 f3
  have m3 := OM.out.cell 3; have f3 := OM.out.frozen 3
  obtain ⟨W8, hW8⟩ : ∃ W8, w7.setCell ⟨w5.heap.size, 3, none⟩ (.int .i64 ttl) = W8 := ⟨_, rfl⟩
  have o8 : Only [w5.heap.size] w7 W8 := by rw [← hW8]; exact (Only.refl _ w7).setCell (Or.inl (by simp)) _
  have OM := hid (show Ob W8 w5.heap.size 46 #[.string s, .int .i64 ty, .int .i64 cl, .int .i64 ttl, .slice none 0 0] from by rw [← hW8]; exact OM.out.set 3 _)
  have RD := hid (RD.out.only o8 (by simp; omega)); have OR := hid (OR.out.only o8 (by simp; omega)); have QB := hid (QB.out.fresh o8 (by simp; omega))
  have HB := hid (HB.out.only o8 (fun b' off' e' hb' hm => by have := HBlt.out; injection e' with e'; injection e' with e1 _; subst e1; simp at hm; omega))
  have hz8 := Nat.le_trans hz7 o8.size
  have m3b := OM.out.cell 3
  clear o8
  go_wp2_with fail
  clear m3 f3 hW8
  refine (rdr.two_ok W8 _ _ rr e pp _ RD.out (by rw [List.length_drop, List.length_drop, List.length_drop, HLen.out]; omega)).mono ?_
  rintro x w9 ⟨rfl, h9, o9⟩
  rw [N4.out]
  have HB := hid (HB.out.only o9 (fun b' off' e' hb' hm => by have := HBlt.out; injection e' with e'; injection e' with e1 _; subst e1; simp at hm; omega))
  have OM := hid (OM.out.only o9 (by simp; omega))
  have hz9 := Nat.le_trans hz8 o9.size
  have RD := hid h9; have OR := hid (OR.out.only o9 (by simp; omega)); have QB0 := QB.out.size; have QB := hid (QB.out.fresh o9 (by simp; omega))
  clear h9 o9
  clear m3b
  go_wp2_with fail
  refine (rdr.err_ok w9 _ _ rr e pp _ RD.out).mono ?_
  rintro x w10 ⟨rfl, h10, o10⟩
  have HB := hid (HB.out.only o10 (fun b' off' e' hb' hm => by have := HBlt.out; injection e' with e'; injection e' with e1 _; subst e1; simp at hm; omega))
  have OM := hid (OM.out.only o10 (by simp; omega))
  have hz10 := Nat.le_trans hz9 o10.size
  have RD := hid h10; have OR := hid (OR.out.only o10 (by simp; omega)); have QB0 := QB.out.size; have QB := hid (QB.out.fresh o10 (by simp; omega))
  clear h10 o10
  have m1 := OM.out.cell 1
  go_wp2_with fail
  clear m1
  refine (dataL w10 b off n c B HB.out hnc HCM.out hn (a1 + 10) (a1 + 10 + dl) ty (by omega) HE2.out r.d HD1.out HD5.out HD0.out).mono ?_
  rintro x w11 ⟨v, rfl, hv, o11⟩
  have OM := hid (OM.out.only o11 (by simp))
  have OR := hid (OR.out.only o11 (by simp)); have QB := hid (QB.out.trans o11)
  have HV := hid hv
  clear hv o11
  have m4 := OM.out.cell 4; have f4 := OM.out.frozen 4
  obtain ⟨W12, hW12⟩ : ∃ W12, w11.setCell ⟨w5.heap.size, 4, none⟩ v = W12 := ⟨_, rfl⟩
  have o12 : Only [w5.heap.size] w11 W12 := by rw [← hW12]; exact (Only.refl _ w11).setCell (Or.inl (by simp)) _
  have HV := hid (HV.out.keep (K8.of_one o12 OM.out (by decide)))
  have OM := hid (show Ob W12 w5.heap.size 46 #[.string s, .int .i64 ty, .int .i64 cl, .int .i64 ttl, v] from by rw [← hW12]; exact OM.out.set 4 _)
  have OR := hid (OR.out.only o12 (by simp; omega)); have QB := hid (QB.out.fresh o12 (by simp; omega))
  clear o12
  obtain ⟨Av, cv, rfl, hv1, hv2, hv3, hv4⟩ := HV.out
  go_wp2_with (first
    | (refine wp_loadOb rfl 46 _ rfl _ rfl _ _ OM.out Try.underlying46 rfl (by kernel_rfl) ?_; try simp only [Act.put, List.setIfInBounds_toArray, List.set_cons_zero, List.set_cons_succ])
    | (refine wp_storeOb rfl 46 _ _ rfl _ _ rfl rfl _ _ OR.out rfl (by kernel_rfl) (by simp [Value.oneCell']) (fun W5 hW5 => ?_); try simp only [Act.put, List.setIfInBounds_toArray, List.set_cons_zero, List.set_cons_succ]; have OR5 := hid (OR.out.eq_all hW5 rfl); have QB5 := hid (QB.out.eq_all hW5 (Or.inr (Nat.le_refl _))); have V5 := hid (HV.out.keep (K8.of_one (Only.eq_all (Only.refl [w.heap.size] _) hW5 (Or.inl (by simp))) OR.out (by decide))); clear hW5))
  have r0 := OR5.out.cell 0; have r1 := OR5.out.cell 1; have r2 := OR5.out.cell 2; have r3 := OR5.out.cell 3; have r4 := OR5.out.cell 4
  exact bodyPost_ret (v := .tuple #[.agg #[.string s, .int .i64 ty, .int .i64 cl, .int .i64 ttl, .slice Av r.d.length cv], .int .i64 ((a1 : Int) + 10 + dl), .int .i64 0]) (by simp [results, Try.results52, go_sem, *]) rfl ⟨_, by rw [HEnd.out], V5.out, QB5.out⟩
end Go.Proofs.Ytfoecnlbiaiibaa.nam
