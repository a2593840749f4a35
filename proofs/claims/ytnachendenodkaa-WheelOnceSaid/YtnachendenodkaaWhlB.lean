/-
  Chapter 3 (wheel): what a wheel holds, and where a key's timer stands, by a walk of each text. Conditions: none but those typed.
-/
import Derived.Test.YtnachendenodkaaWhlA
import Derived.Test.YtnachendenodkaaProg
namespace Go.Proofs.Ytnachendenodkaa.whl
set_option linter.unusedVariables false
set_option linter.unusedSimpArgs false
open Go.ChangeShapes Go.WideShapes Go.ChangeAt Go.RowKit Go.IntWalk Go.Lib
/-- A wheel's cells: its 64 slots and the count. -/
def Wh (vs : List Value) (n : Int) : Array Value := (vs ++ [Value.int .i64 n]).toArray
def nilv : Value := .slice none 0 0
/-- A wheel in block g, whose slots' rows vs hold the lists C. -/
structure WR (w : World) (g : Nat) (vs : List Value) (C : Nat → List Tm) (n : Int) : Prop where
  ob : Ob w g 27 (Wh vs n)
  n64 : vs.length = 64
  own : ∀ s, s < 64 → w.ownsRow 0 55 2 (vs.getD s nilv) (C s).length (tcs (C s))
  apart : ∀ s t, s < 64 → t < 64 → s ≠ t → ∀ b, (vs.getD s nilv).ownBlock = some b → (vs.getD t nilv).ownBlock ≠ some b
/-- All blocks of its rows. -/
def blocks (vs : List Value) : List Nat := vs.flatMap fun v => v.ownBlock.toList
theorem blocks_mem {vs : List Value} {s b : Nat} (hs : s < vs.length) (h : (vs.getD s nilv).ownBlock = some b) : b ∈ blocks vs := by
  unfold blocks
  rw [List.mem_flatMap]
  refine ⟨vs[s], List.getElem_mem hs, ?_⟩
  have e : vs.getD s nilv = vs[s] := by simp [hs]
  rw [← e, h]; simp
theorem mem_blocks {vs : List Value} {b : Nat} (h : b ∈ blocks vs) : ∃ s, s < vs.length ∧ (vs.getD s nilv).ownBlock = some b := by
  unfold blocks at h
  rw [List.mem_flatMap] at h
  obtain ⟨v, hv, hb⟩ := h
  obtain ⟨s, hs, rfl⟩ := List.mem_iff_getElem.1 hv
  exact ⟨s, hs, by simpa [hs] using hb⟩
theorem own_neW {w : World} {g base n : Nat} {v : Value} {xs : List Value} {cs : Array Value} (ho : Ob w g 27 cs) (h : w.ownsRow base 55 2 v n xs) : v.ownBlock ≠ some g := by
  intro e
  rcases h.2 with ⟨hv, _⟩ | ⟨g', cap, cur, hv, _, hh, _⟩
  · rw [hv] at e; cases e
  · rw [hv] at e
    have : g' = g := by simpa [Value.ownBlock] using e
    subst this
    unfold Ob at ho
    rw [hh] at ho
    injection ho with h2; injection h2 with _ h3
    exact absurd h3 (by decide)
theorem WR.ne {w : World} {g : Nat} {vs : List Value} {C : Nat → List Tm} {n : Int} (h : WR w g vs C n) : g ∉ blocks vs := fun hb => by
  obtain ⟨s, hs, e⟩ := mem_blocks hb
  exact own_neW h.ob (h.own s (by rw [← h.n64]; exact hs)) e
theorem WR.only {w w' : World} {g : Nat} {vs : List Value} {C : Nat → List Tm} {n : Int} {S : List Nat} (h : WR w g vs C n) (o : Only S w w') (h1 : g ∉ S) (h2 : ∀ b, b ∈ blocks vs → b ∉ S) : WR w' g vs C n :=
  ⟨h.ob.only o h1, h.n64, fun s hs => own_only (h.own s hs) o (fun b hb => h2 b (blocks_mem (by rw [h.n64]; exact hs) hb)), h.apart⟩
theorem WR.only_nil {w w' : World} {g : Nat} {vs : List Value} {C : Nat → List Tm} {n : Int} (h : WR w g vs C n) (o : Only [] w w') : WR w' g vs C n := h.only o (by simp) (by simp)
theorem WR.cellS {w : World} {g : Nat} {vs : List Value} {C : Nat → List Tm} {n : Int} (h : WR w g vs C n) (s : Nat) (hs : s < 64) : w.cell? ⟨g, s, none⟩ = some (vs.getD s nilv) := by
  have hl : s < vs.length := by rw [h.n64]; exact hs
  rw [h.ob.cell s]
  simp [Wh, List.getElem?_append_left hl, hl]
theorem WR.cellN {w : World} {g : Nat} {vs : List Value} {C : Nat → List Tm} {n : Int} (h : WR w g vs C n) : w.cell? ⟨g, 64, none⟩ = some (.int .i64 n) := by
  rw [h.ob.cell 64]
  simp [Wh, List.getElem?_append_right (Nat.le_of_eq h.n64), h.n64]
theorem WR.range {w : World} {g : Nat} {vs : List Value} {C : Nat → List Tm} {n : Int} (h : WR w g vs C n) : w.rangeAt g 0 vs := fun j v hv => by
  have hl : j < vs.length := by
    rcases Nat.lt_or_ge j vs.length with h1 | h1
    · exact h1
    · rw [List.getElem?_eq_none h1] at hv; cases hv
  rw [Nat.zero_add, h.ob.cell j]
  simp only [Wh, List.getElem?_toArray]
  rw [List.getElem?_append_left hl]; exact hv
/-- Timers that can be read. -/
structure TRd (w : World) (A : Option Addr) (L : List Tm) : Prop where
  at_ : 0 < L.length → ∃ b off, A = some ⟨b, off, none⟩ ∧ b < w.heap.size ∧ ∀ i, i < L.length → w.cell? ⟨b, off + i * 2, none⟩ = some (.int .i64 (gt L i).k) ∧ w.cell? ⟨b, off + i * 2 + 1, none⟩ = some (.int .i64 (gt L i).a)
theorem TRd.of {w : World} {A : Option Addr} {L : List Tm} (h : RdS w A L.length 2 (tcs L)) : TRd w A L := ⟨fun h0 => by
  obtain ⟨b, off, e, hb, hc⟩ := h.cells h0
  refine ⟨b, off, e, hb, fun i hi => ⟨?_, ?_⟩⟩
  · exact hc (i * 2 + 0) _ (by rw [tcs_get L i 0 hi (by omega)]; rfl)
  · rw [Nat.add_assoc]
    exact hc (i * 2 + 1) _ (by rw [tcs_get L i 1 hi (by omega)]; rfl)⟩
theorem TRd.only {w w' : World} {A : Option Addr} {L : List Tm} {S : List Nat} (h : TRd w A L) (o : Only S w w') (hs : ∀ b off, A = some ⟨b, off, none⟩ → b ∉ S) : TRd w' A L := ⟨fun h0 => by
  obtain ⟨b, off, e, hb, hc⟩ := h.at_ h0
  have hn := hs b off e
  exact ⟨b, off, e, Nat.lt_of_lt_of_le hb o.size, fun i hi => ⟨(o.cell hb hn).trans (hc i hi).1, (o.cell hb hn).trans (hc i hi).2⟩⟩⟩
theorem TRd.only_nil {w w' : World} {A : Option Addr} {L : List Tm} (h : TRd w A L) (o : Only [] w w') : TRd w' A L := h.only o (by simp)
/-- A slot's row, as a slice to be read. -/
theorem WR.slot {w : World} {g : Nat} {vs : List Value} {C : Nat → List Tm} {n : Int} (h : WR w g vs C n) (s : Nat) (hs : s < 64) :
    ∃ A c, vs.getD s nilv = .slice A (C s).length c ∧ (C s).length ≤ c ∧ c ≤ maxLen ∧ (A = none → c = 0) ∧ RdS w A (C s).length 2 (tcs (C s)) ∧ (A = none ∨ ∃ b, A = some ⟨b, 0, none⟩) ∧ (∀ b off, A = some ⟨b, off, none⟩ → b ∈ blocks vs) := by
  obtain ⟨A, c, e, h1, h2, h3, h4, h5, h6⟩ := RdS.of_own (h.own s hs) (tcs_one _)
  refine ⟨A, c, e, h1, h2, h3, h4, h6, fun b off hA => ?_⟩
  exact blocks_mem (by rw [h.n64]; exact hs) (h5 b off hA).2
theorem isKey (w : World) (g : Nat) (k a key : Int) (h : Ob w g 3 #[.int .i64 key]) : Calls Try.prog 34 #[.agg #[.int .i64 k, .int .i64 a], .pointer (some ⟨g, 0, none⟩)] w fun x w' => x = .returned (.bool (k == key)) ∧ Only [] w w' := by
  have c0 := h.cell 0
  have hlt := h.lt
  clear h
  have QB : Hid (Only [] w (w.alloc (.cells #[.int .i64 k, .int .i64 a] 55))) := hid ((Only.refl [] w).alloc _)
  go_enter Try.func34, Try.ntmps34
  go_wp2
  go_ret
  exact ⟨rfl, QB.out⟩
/-- Where the first timer of a key stands in a list; -1: nowhere. -/
def KeyEnd (L : List Tm) (key : Int) (w : World) (x : Ending) (w' : World) : Prop :=
  ∃ r : Int, x = .returned (.int .i64 r) ∧ ((r = -1 ∧ ∀ t ∈ L, t.k ≠ key) ∨ ∃ p : Nat, p < L.length ∧ r = p ∧ (gt L p).k = key) ∧ Only [] w w'
set_option maxHeartbeats 2000000 in
theorem idxKey (w : World) (A : Option Addr) (c : Nat) (L : List Tm) (g : Nat) (key : Int) (h : TRd w A L) (hg : Ob w g 3 #[.int .i64 key]) (hn : L.length ≤ 140737488355328) :
    Calls Try.prog 33 #[.slice A L.length c, .func (.func 34) #[] #[.pointer (some ⟨g, 0, none⟩)]] w (KeyEnd L key w) := by
  have H := hid h; have HG := hid hg; clear h hg
  obtain ⟨n, hL⟩ : ∃ n, L.length = n := ⟨_, rfl⟩
  have HL := hid hL
  rw [hL] at hn
  rw [hL]
  clear hL
  go_enter Try.func33, Try.ntmps33
  go_wp2
  go_loopw [8] (fun i wr => ∃ k : Nat, k ≤ n ∧ i = .int .i64 k ∧ Hid (∀ i, i < k → (gt L i).k ≠ key) ∧ Hid (Only [] w wr)) (fun i _ => n - (intOf i).toNat)
  case atStart => exact ⟨0, by omega, rfl, hid (fun i hi => absurd hi (by omega)), hid (Only.refl _ _)⟩
  case round =>
    obtain ⟨k, hk, rfl, HN, HB⟩ := hrel
    by_cases hlt : k < n
    · obtain ⟨b, off, rfl, hb, hc⟩ := (H.out.only_nil HB.out).at_ (by rw [HL.out]; omega)
      obtain ⟨q0, q1⟩ := hc k (by rw [HL.out]; exact hlt)
      clear hc
      obtain ⟨u, hu⟩ : ∃ u, (gt L k).k = u := ⟨_, rfl⟩
      obtain ⟨v, hv⟩ : ∃ v, (gt L k).a = v := ⟨_, rfl⟩
      have HU := hid hu
      rw [hu] at q0; rw [hv] at q1
      clear hu hv
      go_wp2_with fail
      refine (isKey _ g u v key (HG.out.only HB.out (by simp))).mono ?_
      rintro x w2 ⟨rfl, o2⟩
      have HB := hid (HB.out.trans o2); clear o2 q0 q1
      by_cases he : (u == key) = true
      · have HE := hid he
        rw [he]
        clear he
        go_wp2
        go_ret
        exact ⟨_, rfl, .inr ⟨k, by rw [HL.out]; exact hlt, rfl, by rw [HU.out]; simpa using HE.out⟩, HB.out⟩
      · have he : (u == key) = false := by simpa using he
        have HE := hid he
        rw [he]
        clear he
        go_wp2
        go_roundw
        case rel => exact ⟨k + 1, by omega, by go_num, hid (fun i hi => by
          rcases Nat.lt_or_ge i k with h1 | h1
          · exact HN.out i h1
          · obtain rfl : i = k := by omega
            rw [HU.out]; simpa using HE.out), HB⟩
        case measure => simp [intOf]; omega
    · obtain rfl : k = n := by omega
      go_wp2
      go_ret
      refine ⟨_, rfl, .inl ⟨rfl, fun t ht => ?_⟩, HB.out⟩
      obtain ⟨i, hi, rfl⟩ := List.mem_iff_getElem.1 ht
      have := HN.out i (by rw [← HL.out]; exact hi)
      rwa [gt_at L i hi] at this
/-- Where a key's timer is: its slot and its place there; or nowhere. -/
def FindEnd (C : Nat → List Tm) (key : Int) (w : World) (x : Ending) (w' : World) : Prop :=
  ((x = .returned (.tuple #[.int .i64 0, .int .i64 0, .bool false]) ∧ ∀ s, s < 64 → ∀ t ∈ C s, t.k ≠ key) ∨ ∃ s p : Nat, s < 64 ∧ p < (C s).length ∧ (gt (C s) p).k = key ∧ x = .returned (.tuple #[.int .i64 s, .int .i64 p, .bool true])) ∧ Only [] w w'
theorem szTm (W : World) : (Go.sizeOf 24).run Try.prog W = .ok 1 W := by kernel_rfl
theorem agTm (W : World) : (Go.isAgg 24).run Try.prog W = .ok false W := by kernel_rfl
theorem run_idx64 (vs : List Value) (s : Nat) (hs : s < 64) (hl : vs.length = 64) (W : World) : (Instr.index 25 (.agg vs.toArray) (.int .i64 (s : Int))).run Try.prog W = .ok (vs.getD s nilv) W := by
  have h1 : (0 : Int) ≤ (s : Int) ∧ (s : Int) < 64 := by omega
  have h2 : s < vs.length := by omega
  simp [Instr.index, run_underlying Try.underlying25, asIntOf, szTm, agTm, part, go_sem, h1, hs, h2]
set_option maxRecDepth 100000 in
set_option maxHeartbeats 2000000 in
theorem findL (w : World) (g : Nat) (vs : List Value) (C : Nat → List Tm) (n : Int) (key : Int) (h : WR w g vs C n) (hn : ∀ s, s < 64 → (C s).length ≤ 140737488355328) :
    Calls Try.prog 27 #[.pointer (some ⟨g, 0, none⟩), .int .i64 key] w (FindEnd C key w) := by
  have H := hid h; have HN := hid hn
  have hlt := h.ob.lt
  have HR := hid h.range
  have H64 := hid h.n64
  clear h hn
  have QB : Hid (Only [] w (w.alloc (.cells #[.int .i64 key] 3))) := hid ((Only.refl [] w).alloc _)
  have OI : Hid (Ob (w.alloc (.cells #[.int .i64 key] 3)) w.heap.size 3 #[.int .i64 key]) := hid (Ob.new _ _ _)
  have HR1 : Hid ((w.alloc (.cells #[.int .i64 key] 3)).rangeAt g 0 vs) := hid (H.out.only_nil QB.out).range
  go_enter Try.func27, Try.ntmps27
  go_wp2_with (first | refine wpList_load_mid rfl _ _ rfl g 0 (by go_simp) vs _ HR1.out Try.underlying25 rfl (by rw [H64.out]; kernel_rfl) ?_ | fail)
  go_loopw [14] (fun i wr => ∃ k : Nat, k ≤ 64 ∧ i = .int .i64 k ∧ Hid (∀ s, s < k → ∀ t ∈ C s, t.k ≠ key) ∧ Hid (Only [] w wr) ∧ Hid (Only [] (w.alloc (.cells #[.int .i64 key] 3)) wr)) (fun i _ => 64 - (intOf i).toNat)
  case atStart => exact ⟨0, by omega, rfl, hid (fun i hi => absurd hi (by omega)), QB, hid (Only.refl _ _)⟩
  case round =>
    obtain ⟨k, hk, rfl, HF, HB, HB2⟩ := hrel
    by_cases hlt : k < 64
    · have x1 := run_idx64 vs k hlt H64.out
      obtain ⟨A, c, hv, hnc, hcm, hA0, hRd, hsh, hbl⟩ := H.out.slot k hlt
      have HT := hid (TRd.of hRd)
      rw [hv] at x1
      clear hv hA0 hRd hsh hbl hnc hcm
      go_wp2_with fail
      refine (idxKey _ A c (C k) w.heap.size key (HT.out.only_nil HB.out) (OI.out.only HB2.out (by simp)) (HN.out k hlt)).mono ?_
      rintro x w2 ⟨r, rfl, hr, o2⟩
      have HB := hid (HB.out.trans o2); have HB2 := hid (HB2.out.trans o2); clear o2 x1
      rcases hr with ⟨rfl, hno⟩ | ⟨p, hp, rfl, hpk⟩
      · have HNo := hid hno; clear hno
        go_wp2
        go_roundw
        case rel => exact ⟨k + 1, by omega, by go_num, hid (fun s hs => by
          rcases Nat.lt_or_ge s k with h1 | h1
          · exact HF.out s h1
          · obtain rfl : s = k := by omega
            exact HNo.out), HB, HB2⟩
        case measure => simp [intOf]; omega
      · have HP := hid hp; have HK := hid hpk; clear hp hpk
        go_wp2
        go_ret3
        exact ⟨.inr ⟨k, p, hlt, HP.out, HK.out, rfl⟩, HB.out⟩
    · obtain rfl : k = 64 := by omega
      go_wp2
      go_ret3
      exact ⟨.inl ⟨rfl, HF.out⟩, HB.out⟩
end Go.Proofs.Ytnachendenodkaa.whl
