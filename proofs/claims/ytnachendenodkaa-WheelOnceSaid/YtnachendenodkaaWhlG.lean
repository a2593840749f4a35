/-
  Chapter 3 (wheel): Due of a wheel that holds any list of timers, by a walk of its text. Conditions: none but those typed.
-/
import Derived.Test.YtnachendenodkaaWhlS
import Derived.Test.YtnachendenodkaaCpy
import Derived.Shelf.SlSortCmp.NoneTotal

namespace Go.Proofs.Ytnachendenodkaa.whl
set_option linter.unusedVariables false
set_option linter.unusedSimpArgs false
open Go.ChangeShapes Go.WideShapes Go.ChangeAt Go.RowKit Go.IntWalk Go.Lib
def isDue (now : Int) (t : Tm) : Bool := decide (t.a ≤ now)
def dues (L : List Tm) (now : Int) : List Tm := L.filter (isDue now)
def lates (L : List Tm) (now : Int) : List Tm := L.filter fun t => !isDue now t
abbrev TW : TypeId := 55
/-- A wheel, and two more rows that are nobody else's. -/
structure DInv (w : World) (g : Nat) (vs0 vs : List Value) (C : Nat → List Tm) (n : Int) (dv lv : Value) (D E : List Tm) (wr : World) : Prop where
  r : WR wr g vs C n
  d : wr.ownsRow w.heap.size TW 2 dv D.length (tcs D)
  l : wr.ownsRow w.heap.size TW 2 lv E.length (tcs E)
  dn : ∀ b, dv.ownBlock = some b → b ∉ blocks vs
  ln : ∀ b, lv.ownBlock = some b → b ∉ blocks vs
  dl : ∀ b, dv.ownBlock = some b → lv.ownBlock ≠ some b
  o : Only [g] w wr
  bs : ∀ b, b ∈ blocks vs → b ∈ blocks vs0 ∨ w.heap.size ≤ b
section
variable {w : World} {g : Nat} {vs0 vs : List Value} {C : Nat → List Tm} {n : Int} {dv lv : Value} {D E : List Tm} {wr : World}
theorem DInv.symm (h : DInv w g vs0 vs C n dv lv D E wr) : DInv w g vs0 vs C n lv dv E D wr := ⟨h.r, h.l, h.d, h.ln, h.dn, fun b h1 h2 => h.dl b h2 h1, h.o, h.bs⟩
theorem DInv.only_nil {w2 : World} (h : DInv w g vs0 vs C n dv lv D E wr) (o : Only [] wr w2) : DInv w g vs0 vs C n dv lv D E w2 :=
  ⟨h.r.only_nil o, own_only_nil h.d o, own_only_nil h.l o, h.dn, h.ln, h.dl, h.o.trans (o.more (by simp)), h.bs⟩
theorem DInv.blt (h : DInv w g vs0 vs C n dv lv D E wr) {b : Nat} (hb : b ∈ blocks vs) : b < wr.heap.size := by
  obtain ⟨s, hs, e⟩ := mem_blocks hb
  exact ((h.r.own s (by rw [← h.r.n64]; exact hs)).lt b e).2
/-- The first of them is appended to. -/
theorem DInv.app {w2 w4 : World} {v4 : Value} {t : Tm} (h : DInv w g vs0 vs C n dv lv D E wr) (o : Only [] wr w2) (hv : w4.ownsRow w.heap.size TW 2 v4 (D.length + 1) (tcs D ++ t.cs)) (hg : w2.grownBy w4 dv.ownBlock) (hb : v4.ownBlock = dv.ownBlock ∨ v4.ownBlock = some w2.heap.size) :
    DInv w g vs0 vs C n v4 lv (D ++ [t]) E w4 := by
  have ho : Only dv.ownBlock.toList wr w4 := (o.more (by simp)).of_grown hg (fun k hk => .inl (by rw [hk]; simp))
  have hsz := o.size
  refine ⟨h.r.only ho (fun hm => own_neW h.r.ob h.d (by simpa using hm)) (fun b hb2 hm => h.dn b (by simpa using hm) hb2), by rw [tcs_app, List.length_append]; simpa [tcs] using hv,
    own_only h.l ho (fun b hb2 hm => h.dl b (by simpa using hm) hb2), fun b hb2 hm => ?_, h.ln, fun b hb2 hb3 => ?_, ?_, h.bs⟩
  · rcases hb with e | e
    · exact h.dn b (by rw [← e]; exact hb2) hm
    · rw [e] at hb2; injection hb2 with hb2
      have := h.blt hm; omega
  · rcases hb with e | e
    · exact h.dl b (by rw [← e]; exact hb2) hb3
    · rw [e] at hb2; injection hb2 with hb2
      have := (h.l.lt b hb3).2; omega
  · refine h.o.fresh ho (fun i hi => .inr (h.d.lt i (by simpa using hi)).1)
theorem nil_own (w : World) (base : Nat) : w.ownsRow base TW 2 nilv ([] : List Tm).length (tcs []) := ⟨by simp [tcs], .inl ⟨rfl, rfl⟩⟩
/-- The second of them becomes a slot's. -/
theorem DInv.store {k : Nat} (h : DInv w g vs0 vs C n dv lv D E wr) (hk : k < 64) : DInv w g vs0 (vs.set k lv) (fun t => if t = k then E else C t) n dv nilv D [] (wr.setCell ⟨g, k, none⟩ lv) := by
  have hl : k < vs.length := by rw [h.r.n64]; exact hk
  have hO : Only [g] wr (wr.setCell ⟨g, k, none⟩ lv) := (Only.refl _ _).setCell (p := ⟨g, k, none⟩) (.inl (by simp)) lv
  refine ⟨WR.put h.r.ob h.r.n64 hk (fun t ht _ => h.r.own t ht) h.r.apart (own_mono h.l (Nat.zero_le _)) (fun t ht hts b hb hb2 => h.ln b hb (blocks_mem (by rw [h.r.n64]; exact ht) hb2)),
    own_only h.d hO (fun b hb hm => own_neW h.r.ob h.d (by rw [hb]; simpa using hm)), nil_own _ _, fun b hb hm => ?_, fun b hb => by simp [nilv, Value.ownBlock] at hb, fun b _ hb => by simp [nilv, Value.ownBlock] at hb, h.o.setCell (p := ⟨g, k, none⟩) (.inl (by simp)) _, fun b hm => ?_⟩
  · rcases blocks_set hl hm with h1 | h1
    · exact h.dn b hb h1
    · exact h.dl b hb h1
  · rcases blocks_set hl hm with h1 | h1
    · exact h.bs b h1
    · exact .inr (h.l.lt b h1).1
theorem DInv.congr {C2 : Nat → List Tm} (h : DInv w g vs0 vs C n dv lv D E wr) (e : ∀ s, s < 64 → C s = C2 s) : DInv w g vs0 vs C2 n dv lv D E wr := ⟨h.r.congr e, h.d, h.l, h.dn, h.ln, h.dl, h.o, h.bs⟩
theorem DInv.cnt (h : DInv w g vs0 vs C n dv lv D E wr) (m : Int) : DInv w g vs0 vs C m dv lv D E (wr.setCell ⟨g, 64, none⟩ (.int .i64 m)) := by
  have hO : Only [g] wr (wr.setCell ⟨g, 64, none⟩ (.int .i64 m)) := (Only.refl _ _).setCell (p := ⟨g, 64, none⟩) (.inl (by simp)) _
  exact ⟨h.r.cnt m, own_only h.d hO (fun b hb hm => own_neW h.r.ob h.d (by rw [hb]; simpa using hm)), own_only h.l hO (fun b hb hm => own_neW h.r.ob h.l (by rw [hb]; simpa using hm)), h.dn, h.ln, h.dl, h.o.setCell (p := ⟨g, 64, none⟩) (.inl (by simp)) _, h.bs⟩
end
theorem ROne (W : World) (k a : Int) : RdS (W.alloc (.cells #[.int .i64 k, .int .i64 a] TW)) (some ⟨W.heap.size, 0, none⟩) 1 2 (Tm.cs ⟨k, a⟩) := ⟨rfl, by intro u hu; simp [Tm.cs] at hu; rcases hu with rfl | rfl <;> rfl, fun _ => ⟨W.heap.size, 0, rfl, by simp, fun j u hj => by rw [Nat.zero_add, (Ob.new W TW #[.int .i64 k, .int .i64 a]).cell j]; simpa [Tm.cs] using hj⟩⟩
theorem take_succ_gt (L : List Tm) (j : Nat) (h : j < L.length) : L.take (j + 1) = L.take j ++ [gt L j] := by
  rw [List.take_add_one, List.getElem?_eq_getElem h, gt_at L j h]; rfl
theorem dues_app (L K : List Tm) (now : Int) : dues (L ++ K) now = dues L now ++ dues K now := by simp [dues]
theorem lates_app (L K : List Tm) (now : Int) : lates (L ++ K) now = lates L now ++ lates K now := by simp [lates]
theorem flat_le (f : Nat → List Tm) (n : Nat) : ∀ k, k ≤ n → ((List.range k).flatMap f).length ≤ ((List.range n).flatMap f).length := by
  induction n with
  | zero => intro k hk; obtain rfl : k = 0 := by omega
            exact Nat.le_refl _
  | succ n ih =>
    intro k hk
    rcases Nat.lt_or_ge k (n + 1) with h1 | h1
    · have := ih k (by omega)
      rw [List.range_succ, List.flatMap_append, List.length_append]; omega
    · obtain rfl : k = n + 1 := by omega
      exact Nat.le_refl _
theorem flat_sub (f h : Nat → List Tm) (hf : ∀ s, (f s).length ≤ (h s).length) : ∀ l : List Nat, (l.flatMap f).length ≤ (l.flatMap h).length
  | [] => Nat.le_refl _
  | x :: r => by
    have := flat_sub f h hf r
    have := hf x
    simp only [List.flatMap_cons, List.length_append]; omega
theorem dues_len (L : List Tm) (now : Int) (k : Nat) (hk : k ≤ 64) (hr : ∀ t ∈ L, 0 ≤ t.a) : ((List.range k).flatMap fun s => dues (bk L s) now).length ≤ L.length := by
  have h1 := flat_sub (fun s => dues (bk L s) now) (fun s => bk L s) (fun s => List.length_filter_le _ _) (List.range k)
  have h2 := flat_le (fun s => bk L s) 64 k hk
  have h3 := (slots_perm 64 L (fun t ht => by have := hr t ht; omega)).length_eq
  omega
theorem dues_perm (L : List Tm) (now : Int) : ((List.range 64).flatMap fun s => dues (bk L s) now).Perm (dues L now) := by
  have e : (fun s => dues (bk L s) now) = fun s => bk (dues L now) s := by
    funext s
    simp only [dues, bk, List.filter_filter]
    congr 1; funext t; exact Bool.and_comm _ _
  rw [e]
  exact slots_perm 64 _ (fun t _ => by omega)
theorem lates_bk (L : List Tm) (now : Int) (s : Nat) : lates (bk L s) now = bk (lates L now) s := by
  simp only [lates, bk, List.filter_filter]
  congr 1; funext t; exact Bool.and_comm _ _
theorem due_late_len (L : List Tm) (now : Int) : (dues L now).length + (lates L now).length = L.length := by
  have := (List.filter_append_perm (isDue now) L).length_eq
  rw [List.length_append] at this
  exact this
theorem DInv.trd {w : World} {g : Nat} {vs0 vs : List Value} {C : Nat → List Tm} {n : Int} {dv lv : Value} {D E : List Tm} {wr : World} (h : DInv w g vs0 vs C n dv lv D E wr) {k : Nat} (hk : k < 64) {A : Option Addr} {m c : Nat} (hv : vs.getD k nilv = .slice A m c) : TRd wr A (C k) := by
  obtain ⟨A', c', hv', _, _, _, hRd, _, _⟩ := h.r.slot k hk
  rw [hv] at hv'
  injection hv' with e1 e2 e3
  subst e1
  exact TRd.of hRd
theorem sort0 (w : World) (p : Option Addr) (c : Nat) (fv : Value) : Calls Try.prog 23 #[.slice p 0 c, fv] w fun x w' => x = .returned (.tuple #[]) ∧ w' = w := by
  have h := Go.Proofs.AnyF.slices_SortFunc_none sortLays p c fv w
  exact h
theorem sortAll (w : World) (base : Nat) (v : Value) (D : List Tm) (hv : w.ownsRow base TW 2 v D.length (tcs D)) (hm : D.length < 4611686018427387904) :
    Calls Try.prog 23 #[v, .func (.func 24) #[] #[]] w fun x w' => x = .returned (.tuple #[]) ∧ ∃ E : List Tm, E.Perm D ∧ (E.Pairwise fun x y => tlt y x = false) ∧ w'.ownsRow base TW 2 v E.length (tcs E) ∧ Only v.ownBlock.toList w w' := by
  rcases Nat.eq_zero_or_pos D.length with h0 | h0
  · obtain rfl : D = [] := List.eq_nil_of_length_eq_zero h0
    obtain ⟨A, c, rfl, _⟩ := RdS.of_own hv (tcs_one _)
    refine (sort0 w A c _).mono ?_
    rintro x w' ⟨rfl, rfl⟩
    exact ⟨rfl, [], List.Perm.refl _, List.Pairwise.nil, hv, Only.refl _ _⟩
  · exact sortTm w base v D hv h0 hm
theorem run_mkI (w : World) (n : Nat) (hn : n ≤ 16777216) : (Instr.makeSlice 38 (.int .i64 (n : Int)) (.int .i64 (n : Int))).run Try.prog w = .ok (.slice (some ⟨w.heap.size, 0, none⟩) n n) (w.alloc (.cells (rowV .i64 (List.replicate n 0)) 3)) := by
  have hi : (Try.prog.info? 3).map (fun i => (i.zero, i.size, i.bytes)) = some (some (.int .i64 0), 1, 8) := by kernel_rfl
  obtain ⟨i, hi, hz, hs, hby⟩ := info_parts hi
  have := run_makeSlice (P := Try.prog) w 38 3 i (.int .i64 0) Try.underlying38 hi hz .i64 .i64 n n (by omega) (by omega) (by rw [hs]; omega) (by rw [hby]; omega) (by omega)
  rw [this]
  have e : madeCells (Value.int .i64 0).cells (((n : Int)).toNat * i.size) = rowV .i64 (List.replicate n 0) := by
    rw [hs, Nat.mul_one, Int.toNat_natCast]
    have := toList_madeCells_one (.int .i64 0) n
    apply Array.toList_inj.1
    show (madeCells #[.int .i64 0] n).toList = _
    rw [this]; simp [rowV]
  rw [e]
  simp
theorem keys_len (E : List Tm) : (keys E).length = E.length := by simp [keys]
theorem keys_step (E : List Tm) (j : Nat) (h : j < E.length) : ((keys E).take j ++ List.replicate (E.length - j) 0).set j (gt E j).k = (keys E).take (j + 1) ++ List.replicate (E.length - (j + 1)) 0 := by
  have h1 : ((keys E).take j).length = j := by rw [List.length_take, keys_len]; omega
  have h2 : (keys E).take (j + 1) = (keys E).take j ++ [(gt E j).k] := by
    rw [List.take_add_one, List.getElem?_eq_getElem (by rw [keys_len]; exact h)]
    simp [keys, gt, h]
  rw [h2, List.set_append_right _ _ (by omega), h1, Nat.sub_self, List.append_assoc]
  congr 1
  rw [show E.length - j = (E.length - (j + 1)) + 1 from by omega, List.replicate_succ, List.set_cons_zero]
  rfl
theorem rowV_set (k : IntKind) (z : List Int) (j : Nat) (v : Int) : (rowV k z).setIfInBounds j (.int k v) = rowV k (z.set j v) := by
  unfold rowV; rw [List.setIfInBounds_toArray, List.map_set]
theorem DInv.sorted {w : World} {g : Nat} {vs0 vs : List Value} {C : Nat → List Tm} {n : Int} {dv lv : Value} {D E F : List Tm} {wr w4 : World} (h : DInv w g vs0 vs C n dv lv D E wr) (hv : w4.ownsRow w.heap.size TW 2 dv F.length (tcs F)) (o : Only dv.ownBlock.toList wr w4) : DInv w g vs0 vs C n dv lv F E w4 :=
  ⟨h.r.only o (fun hm => own_neW h.r.ob h.d (by simpa using hm)) (fun b hb2 hm => h.dn b (by simpa using hm) hb2), hv, own_only h.l o (fun b hb2 hm => h.dl b (by simpa using hm) hb2), h.dn, h.ln, h.dl, h.o.fresh o (fun i hi => .inr (h.d.lt i (by simpa using hi)).1), h.bs⟩
set_option maxRecDepth 100000 in
set_option maxHeartbeats 8000000 in
/-- The wheel's slots are parted: what is due is gathered. -/
theorem dueL (w : World) (g : Nat) (vs : List Value) (L : List Tm) (now : Int) (h : WV w g vs L) : Calls Try.prog 13 #[.pointer (some ⟨g, 0, none⟩), .int .i64 now] w fun x w' => ∃ (E : List Tm) (b : Nat), x = .returned (.slice (some ⟨b, 0, none⟩) E.length E.length) ∧ E.Perm (dues L now) ∧ (E.Pairwise fun x y => tlt y x = false) ∧ w.heap.size ≤ b ∧ Ob w' b 3 (rowV .i64 (keys E)) ∧
    ∃ vs', WV w' g vs' (lates L now) ∧ (∀ c, c ∈ blocks vs' → (c ∈ blocks vs ∨ w.heap.size ≤ c) ∧ c ≠ b) ∧ Only [g] w w' := by
  have H := hid h
  have hm := h.most
  have HR1 := hid h.r.range
  have H64 := hid h.r.n64
  have hbl := fun b (hb : b ∈ blocks vs) => (Or.inl hb : b ∈ blocks vs ∨ w.heap.size ≤ b)
  have hI : DInv w g vs vs (fun s => if s < 0 then lates (bk L s) now else bk L s) L.length nilv nilv [] [] w := ⟨h.r.congr (fun s hs => by rw [if_neg (by omega)]), nil_own _ _, nil_own _ _, fun b hb => by simp [nilv, Value.ownBlock] at hb, fun b hb => by simp [nilv, Value.ownBlock] at hb, fun b hb => by simp [nilv, Value.ownBlock] at hb, Only.refl _ _, hbl⟩
  have HI := hid hI
  clear h hI hbl
  go_enter Try.func13, Try.ntmps13
  go_wp2_with (first | refine wpList_load_mid rfl _ _ rfl g 0 (by go_simp) vs _ HR1.out Try.underlying25 rfl (by rw [H64.out]; kernel_rfl) ?_ | fail)
  clear HR1
  go_loopw [20, 5] (fun i dv wr => ∃ (k : Nat) (vsk : List Value), k ≤ 64 ∧ i = .int .i64 k ∧ Hid (DInv w g vs vsk (fun s => if s < k then lates (bk L s) now else bk L s) L.length dv nilv ((List.range k).flatMap fun s => dues (bk L s) now) [] wr) ∧ Hid (∀ s, k ≤ s → s < 64 → vsk.getD s nilv = vs.getD s nilv)) (fun i _ _ => 64 - (intOf i).toNat)
  case atStart => exact ⟨0, vs, by omega, rfl, HI, hid (fun s _ _ => rfl)⟩
  case round =>
    clear HI
    obtain ⟨k, vsk, hk, rfl, HI, HS⟩ := hrel
    by_cases hlt : k < 64
    · have hs2 : (k : Int) < 64 := by omega
      have x1 := run_idx64 vs k hlt H64.out
      obtain ⟨A, c, hv, hnc, hcm, hA0, hRd, hsh, hbl⟩ := HI.out.r.slot k hlt
      have hvk := hv
      rw [HS.out k (Nat.le_refl _) hlt] at hv
      rw [if_neg (Nat.lt_irrefl k)] at hv hvk hnc hRd
      have HT := hid (TRd.of hRd)
      have HBl := hid hbl
      rw [hv] at x1
      have hn9 : (bk L k).length ≤ 256 := Nat.le_trans (bk_len L k) hm
      clear hv hA0 hRd hsh hbl hnc hcm
      obtain ⟨nn, hNN⟩ : ∃ nn, (bk L k).length = nn := ⟨_, rfl⟩
      have HNN := hid hNN
      rw [hNN] at x1 hn9 hvk
      clear hNN
      obtain ⟨D0, hD0⟩ : ∃ D0, ((List.range k).flatMap fun s => dues (bk L s) now) = D0 := ⟨_, rfl⟩
      have HD0 := hid hD0
      rw [hD0] at HI
      clear hD0
      have HLen : Hid (∀ j, (D0 ++ dues ((bk L k).take j) now).length ≤ 512) := hid (fun j => by
        rw [List.length_append]
        have h1 := dues_len L now k hk (fun t ht => (H.out.ran t ht).1)
        rw [HD0.out] at h1
        have h2 : (dues ((bk L k).take j) now).length ≤ ((bk L k).take j).length := List.length_filter_le _ _
        rw [List.length_take] at h2
        rw [HNN.out] at h2
        omega)
      have HLt2 : Hid (∀ j, (lates ((bk L k).take j) now).length ≤ 512) := hid (fun j => by
        have h2 : (lates ((bk L k).take j) now).length ≤ ((bk L k).take j).length := List.length_filter_le _ _
        rw [List.length_take] at h2
        rw [HNN.out] at h2
        omega)
      have HVk : Hid (vsk.getD k nilv = .slice A nn c) := hid hvk
      clear hvk
      go_wp2_with fail
      go_loopw [26, 5, 8] (fun i dv lv wr2 => ∃ (j : Nat), j ≤ nn ∧ i = .int .i64 j ∧ Hid (DInv w g vs vsk (fun s => if s < k then lates (bk L s) now else bk L s) L.length dv lv (D0 ++ dues ((bk L k).take j) now) (lates ((bk L k).take j) now) wr2)) (fun i _ _ _ => nn - (intOf i).toNat)
      case atStart => exact ⟨0, by omega, rfl, hid (by have h9 := HI.out; rw [show dues ((bk L k).take 0) now = [] from rfl, show lates ((bk L k).take 0) now = [] from rfl, List.append_nil]; exact h9)⟩
      case round =>
        clear HI
        obtain ⟨j, hj, rfl, HI⟩ := hrel
        by_cases hjl : j < nn
        · have ht2 := HI.out.trd hlt HVk.out
          rw [if_neg (Nat.lt_irrefl k)] at ht2
          obtain ⟨b, off, rfl, hb, hc⟩ := ht2.at_ (by rw [HNN.out]; omega)
          obtain ⟨q0, q1⟩ := hc j (by rw [HNN.out]; exact hjl)
          clear hc ht2
          have HTk := hid (take_succ_gt (bk L k) j (by rw [HNN.out]; exact hjl))
          obtain ⟨⟨uk, ua⟩, hu⟩ : ∃ u, gt (bk L k) j = u := ⟨_, rfl⟩
          rw [hu] at q0 q1 HTk
          have q0 : wr.cell? ⟨b, off + j * 2, none⟩ = some (.int .i64 uk) := q0
          have q1 : wr.cell? ⟨b, off + j * 2 + 1, none⟩ = some (.int .i64 ua) := q1
          clear hu
          have HO2 : Hid (Only [] wr ((wr.alloc (.cells #[.int .i64 uk, .int .i64 ua] TW)).alloc (.cells #[.int .i64 uk, .int .i64 ua] TW))) := hid (((Only.refl _ _).alloc _).alloc _)
          have HNW : Hid (RdS ((wr.alloc (.cells #[.int .i64 uk, .int .i64 ua] TW)).alloc (.cells #[.int .i64 uk, .int .i64 ua] TW)) (some ⟨wr.heap.size + 1, 0, none⟩) 1 2 (Tm.cs ⟨uk, ua⟩)) := hid (by have h9 := ROne (wr.alloc (.cells #[.int .i64 uk, .int .i64 ua] TW)) uk ua; simpa using h9)
          have HL1 := HLen.out j
          have HL2 := HLt2.out j
          obtain ⟨Dj, hDj⟩ : ∃ Dj, D0 ++ dues ((bk L k).take j) now = Dj := ⟨_, rfl⟩
          obtain ⟨Ej, hEj⟩ : ∃ Ej, lates ((bk L k).take j) now = Ej := ⟨_, rfl⟩
          rw [hDj] at HL1; rw [hEj] at HL2
          rw [hDj, hEj] at HI
          have HDj := hid hDj; have HEj := hid hEj
          clear hDj hEj
          by_cases hd : ua ≤ now
          · have HDe : Hid (D0 ++ dues ((bk L k).take (j + 1)) now = Dj ++ [⟨uk, ua⟩]) := hid (by rw [HTk.out, dues_app, ← List.append_assoc, HDj.out]; simp [dues, isDue, hd])
            have HEe : Hid (lates ((bk L k).take (j + 1)) now = Ej) := hid (by rw [HTk.out, lates_app, HEj.out]; simp [lates, isDue, hd])
            go_wp2_with (at_builtin; refine wpList_appS _ rfl (.tmp 34) (.tmp 36) _ rfl tmElemS w.heap.size _ Dj.length (tcs Dj) rfl (own_only_nil HI.out.d HO2.out) (some ⟨wr.heap.size + 1, 0, none⟩) 1 1 (Tm.cs ⟨uk, ua⟩) rfl HNW.out (by intro e; cases e) (.inr ⟨_, _, rfl⟩) (by omega) (by unfold maxLen; omega) (Nat.le_trans HI.out.o.size HO2.out.size) ?_)
            intro v4 w4 hv4 hg4 hb4
            have HI4 := hid (HI.out.app HO2.out hv4 hg4 (by simpa using hb4))
            clear hv4 hg4 hb4 q0 q1
            go_wp2
            go_roundw
            case rel => exact ⟨j + 1, by omega, by go_num, hid (by rw [HDe.out, HEe.out]; exact HI4.out)⟩
            case measure => simp [intOf]; omega
          · have HDe : Hid (D0 ++ dues ((bk L k).take (j + 1)) now = Dj) := hid (by rw [HTk.out, dues_app, ← List.append_assoc, HDj.out]; simp [dues, isDue, hd])
            have HEe : Hid (lates ((bk L k).take (j + 1)) now = Ej ++ [⟨uk, ua⟩]) := hid (by rw [HTk.out, lates_app, HEj.out]; simp [lates, isDue, hd])
            go_wp2_with (at_builtin; refine wpList_appS _ rfl (.tmp 38) (.tmp 40) _ rfl tmElemS w.heap.size _ Ej.length (tcs Ej) rfl (own_only_nil HI.out.l HO2.out) (some ⟨wr.heap.size + 1, 0, none⟩) 1 1 (Tm.cs ⟨uk, ua⟩) rfl HNW.out (by intro e; cases e) (.inr ⟨_, _, rfl⟩) (by omega) (by unfold maxLen; omega) (Nat.le_trans HI.out.o.size HO2.out.size) ?_)
            intro v4 w4 hv4 hg4 hb4
            have HI4 := hid (HI.out.symm.app HO2.out hv4 hg4 (by simpa using hb4)).symm
            clear hv4 hg4 hb4 q0 q1
            go_wp2
            go_roundw
            case rel => exact ⟨j + 1, by omega, by go_num, hid (by rw [HDe.out, HEe.out]; exact HI4.out)⟩
            case measure => simp [intOf]; omega
        · obtain rfl : j = nn := by omega
          have HTk : Hid ((bk L k).take j = bk L k) := hid (List.take_of_length_le (by rw [HNN.out]; exact Nat.le_refl _))
          rw [HTk.out] at HI
          obtain ⟨Al, cl, rfl, hl1, hl2, hl3, hl4, hl5, hl6⟩ := RdS.of_own HI.out.l (tcs_one _)
          clear hl1 hl2 hl3 hl4 hl5 hl6
          have cs := HI.out.r.cellS k hlt
          have fs := HI.out.r.ob.frozen k
          rw [HVk.out] at cs
          go_wp2
          go_roundw
          case rel =>
            refine ⟨k + 1, vsk.set k (.slice Al (lates (bk L k) now).length cl), by omega, by go_num, hid ?_, hid (fun s h1 h2 => ?_)⟩
            · have h9 := HI.out.store hlt
              have e9 : ((List.range (k + 1)).flatMap fun s => dues (bk L s) now) = D0 ++ dues (bk L k) now := by rw [List.range_succ, List.flatMap_append, HD0.out]; simp
              rw [e9]
              refine h9.congr (fun s hs => ?_)
              by_cases e : s = k
              · subst e; rw [if_pos rfl, if_pos (by omega)]
              · rw [if_neg e]
                by_cases e2 : s < k
                · rw [if_pos e2, if_pos (by omega)]
                · rw [if_neg e2, if_neg (by omega)]
            · rw [getD_set vsk k s _ (by rw [HI.out.r.n64]; exact hlt), if_neg (by omega)]
              exact HS.out s (by omega) h2
          case measure => simp [intOf]; omega
    · obtain rfl : k = 64 := by omega
      clear HS
      have HPm := hid (dues_perm L now)
      have HLn := hid (due_late_len L now)
      obtain ⟨D0, hD0⟩ : ∃ D0, ((List.range 64).flatMap fun s => dues (bk L s) now) = D0 := ⟨_, rfl⟩
      rw [hD0] at HI HPm
      clear hD0
      have hlD : D0.length + (lates L now).length = L.length := by rw [HPm.out.length_eq]; exact HLn.out
      obtain ⟨A, c, rfl, z1, z2, z3, z4, z5, z6⟩ := RdS.of_own HI.out.d (tcs_one _)
      clear z1 z2 z3 z4 z5 z6
      have cn := HI.out.r.cellN
      have fn := HI.out.r.ob.frozen 64
      obtain ⟨nd, hnd⟩ : ∃ nd, D0.length = nd := ⟨_, rfl⟩
      have HN := hid hnd
      rw [hnd] at hlD
      rw [hnd] at HI
      rw [hnd]
      clear hnd
      have HC := hid (HI.out.cnt ((L.length : Int) - nd))
      have hll : (lates L now).length ≤ 256 := by omega
      obtain ⟨lw, hlw⟩ : ∃ lw, (lates L now).length = lw := ⟨_, rfl⟩
      have HLw := hid hlw
      rw [hlw] at hlD hll
      clear hlw
      go_wp2_with fail
      refine (sortAll _ w.heap.size _ D0 HC.out.d (by rw [HN.out]; omega)).mono ?_
      rintro x w4 ⟨rfl, E, hE1, hE2, hE3, o4⟩
      have hEl : E.length = nd := by rw [hE1.length_eq]; exact HN.out
      have HEl := hid hEl
      have HI4 := hid (HC.out.sorted hE3 o4)
      have HE1 := hid hE1; have HE2 := hid hE2
      clear hE1 hE2 hE3 o4 HC HI cn fn hEl
      have hndl : nd ≤ 256 := by omega
      have hmk := run_mkI w4 nd (by omega)
      have HO5 : Hid (Ob (w4.alloc (.cells (rowV .i64 (List.replicate nd 0)) 3)) w4.heap.size 3 (rowV .i64 (List.replicate nd 0))) := hid (Ob.new _ _ _)
      have HQ5 : Hid (Only [] w4 (w4.alloc (.cells (rowV .i64 (List.replicate nd 0)) 3))) := hid ((Only.refl _ _).alloc _)
      obtain ⟨A', c', hA1, z1, z2, z3, hRd, z5, z6⟩ := RdS.of_own HI4.out.d (tcs_one _)
      clear z1 z2 z3 z5 z6
      rw [HEl.out] at hA1
      injection hA1 with hA1 _ hA2
      subst hA1 hA2
      have HT := hid (TRd.of hRd)
      have HAb : Hid (∀ b off, A = some ⟨b, off, none⟩ → b < w4.heap.size) := hid (fun b off e => (HI4.out.d.lt b (by rw [e]; rfl)).2)
      clear hRd
      obtain ⟨gk, hgk⟩ : ∃ gk, w4.heap.size = gk := ⟨_, rfl⟩
      have HGk := hid hgk
      rw [hgk] at hmk HO5 HAb
      clear hgk
      obtain ⟨W5, hW5⟩ : ∃ W5, (w4.alloc (.cells (rowV .i64 (List.replicate nd 0)) 3)) = W5 := ⟨_, rfl⟩
      rw [hW5] at hmk HO5 HQ5
      clear hW5
      go_wp2_with fail
      go_loopw [66] (fun i wr2 => ∃ j : Nat, j ≤ nd ∧ i = .int .i64 j ∧ Hid (Ob wr2 gk 3 (rowV .i64 ((keys E).take j ++ List.replicate (E.length - j) 0))) ∧ Hid (Only [gk] W5 wr2)) (fun i _ => nd - (intOf i).toNat)
      case atStart => exact ⟨0, by omega, rfl, hid (by rw [HEl.out, Nat.sub_zero, List.take_zero, List.nil_append]; exact HO5.out), hid (Only.refl _ _)⟩
      case round =>
        clear HO5 hmk
        obtain ⟨j, hj, rfl, HO6, HQ6⟩ := hrel
        by_cases hjl : j < nd
        · obtain ⟨b, off, rfl, hb, hc⟩ := ((HT.out.only_nil HQ5.out).only HQ6.out (fun b off e => by have := HAb.out b off e; simp; omega)).at_ (by rw [HEl.out]; omega)
          obtain ⟨q0, q1⟩ := hc j (by rw [HEl.out]; exact hjl)
          clear hc
          have HKs := hid (keys_step E j (by rw [HEl.out]; exact hjl))
          obtain ⟨⟨uk, ua⟩, hu⟩ : ∃ u, gt E j = u := ⟨_, rfl⟩
          rw [hu] at q0 q1 HKs
          have q0 : wr.cell? ⟨b, off + j * 2, none⟩ = some (.int .i64 uk) := q0
          have q1 : wr.cell? ⟨b, off + j * 2 + 1, none⟩ = some (.int .i64 ua) := q1
          have HKs : Hid (((keys E).take j ++ List.replicate (E.length - j) 0).set j uk = (keys E).take (j + 1) ++ List.replicate (E.length - (j + 1)) 0) := HKs
          clear hu
          have hzl : Hid (((keys E).take j ++ List.replicate (E.length - j) 0).length = nd) := hid (by rw [List.length_append, List.length_take, keys_len, List.length_replicate, HEl.out]; omega)
          obtain ⟨z, hz⟩ : ∃ z, (keys E).take j ++ List.replicate (E.length - j) 0 = z := ⟨_, rfl⟩
          rw [hz] at HO6 HKs hzl
          clear hz
          have c6 : wr.cell? ⟨gk, j, none⟩ = some (.int .i64 (z.getD j 0)) := by rw [HO6.out.cell j, rowV_get .i64 z j (by rw [hzl.out]; exact hjl)]
          have f6 := HO6.out.frozen j
          have hgl : gk < wr.heap.size := HO6.out.lt
          obtain ⟨zz, hzz⟩ : ∃ zz, z.getD j 0 = zz := ⟨_, rfl⟩
          rw [hzz] at c6
          clear hzz
          go_wp2
          go_roundw
          case rel =>
            refine ⟨j + 1, by omega, by go_num, hid ?_, hid ((HQ6.out.setCell (p := ⟨gk, j, none⟩) (.inl (by simp)) _).alloc _)⟩
            rw [← HKs.out, ← rowV_set]
            exact (HO6.out.set j _).alloc _
          case measure => simp [intOf]; omega
        · obtain rfl : j = nd := by omega
          have HO6 : Hid (Ob wr gk 3 (rowV .i64 (keys E))) := hid (by
            have h9 := HO6.out
            rwa [HEl.out, Nat.sub_self, List.replicate_zero, List.append_nil, List.take_of_length_le (by rw [keys_len, HEl.out]; exact Nat.le_refl _)] at h9)
          go_wp2
          go_ret
          have hgW := HGk.out
          have hs0 := HI4.out.o.size
          have hbk : ∀ c, c ∈ blocks vsk → c < gk := fun c hc => by have := HI4.out.blt hc; omega
          have hgg : g < gk := by have := HI4.out.r.ob.lt; omega
          have hOn : Only [gk] w4 wr := (HQ5.out.more (by simp)).trans HQ6.out
          have hWR := (HI4.out.r.only hOn (by simp; omega) (fun c hc hm => by have := hbk c hc; simp at hm; omega)).congr (D := bk (lates L now)) (fun s hs => by rw [if_pos hs, lates_bk])
          have hcount : ((L.length : Int) - j) = ((lates L now).length : Int) := by have := HLw.out; omega
          rw [hcount] at hWR
          refine ⟨E, gk, by rw [HEl.out]; rfl, HE1.out.trans HPm.out, HE2.out, by omega, HO6.out, vsk, ⟨hWR, H.out.key.sublist (List.Sublist.map _ List.filter_sublist), fun t ht => H.out.ran t (List.mem_filter.1 ht).1, by have := HLw.out; omega⟩, fun c hc => ⟨HI4.out.bs c hc, by have := hbk c hc; omega⟩, ?_⟩
          exact HI4.out.o.fresh hOn (fun i hi => .inr (by simp at hi; omega))
end Go.Proofs.Ytnachendenodkaa.whl
