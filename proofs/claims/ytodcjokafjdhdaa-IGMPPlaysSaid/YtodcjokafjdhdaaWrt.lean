/-
  octet.Writer: what each of its functions does to it, by a walk of each text. Conditions: no more than 2^46 bytes are written.
-/
import Derived.Test.YtodcjokafjdhdaaRows
import Derived.Test.YtodcjokafjdhdaaByt
import Derived.Test.YtodcjokafjdhdaaBit
import Derived.Laws.EntriesVeiled
namespace Go.Proofs.Ytodcjokafjdhdaa.wrt
set_option linter.unusedVariables false
set_option linter.unusedSimpArgs false
open Go.ChangeShapes Go.WideShapes Go.ChangeAt Go.RowKit Go.IntWalk Go.Lib
theorem elemB : Elem Try.prog 26 5 .u8 1 := ⟨Try.underlying26, by kernel_rfl⟩
/-- The Writer in block g holds the bytes l; it and its row lie in blocks from base on. -/
structure Wr (w : World) (g base : Nat) (v : Value) (l : List Int) : Prop where
  ob : Ob w g 91 #[v]
  own : Own .u8 5 w base v l
  low : base ≤ g
theorem Wr.apart {w : World} {g base : Nat} {v : Value} {l : List Int} (h : Wr w g base v l) : v.ownBlock ≠ some g := by
  intro e
  rcases h.own.1.2 with ⟨hv, _⟩ | ⟨g', cap, cur, hv, _, hh, _⟩
  · rw [hv] at e; cases e
  · rw [hv] at e
    have : g' = g := by simpa [Value.ownBlock] using e
    subst this
    have h2 := h.ob
    unfold Ob at h2
    rw [hh] at h2
    injection h2 with h2; injection h2 with _ h3
    exact absurd h3 (by decide)
theorem Wr.only_nil {w w' : World} {g base : Nat} {v : Value} {l : List Int} (h : Wr w g base v l) (o : Only [] w w') : Wr w' g base v l := ⟨h.ob.only o (by simp), h.own.only_nil o, h.low⟩
theorem Wr.only {S : List Nat} {w w' : World} {g base : Nat} {v : Value} {l : List Int} (h : Wr w g base v l) (o : Only S w w') (hg : g ∉ S) (hv : ∀ k, v.ownBlock = some k → k ∉ S) : Wr w' g base v l := ⟨h.ob.only o hg, h.own.only o hv, h.low⟩
/-- A Writer's own block is none that its row lies in, by their types. -/
theorem own_ne {w : World} {g base : Nat} {v v0 : Value} {l : List Int} (ho : Ob w g 91 #[v0]) (h : Own .u8 5 w base v l) : v.ownBlock ≠ some g := by
  intro e
  rcases h.1.2 with ⟨hv, _⟩ | ⟨g', cap, cur, hv, _, hh, _⟩
  · rw [hv] at e; cases e
  · rw [hv] at e
    have : g' = g := by simpa [Value.ownBlock] using e
    subst this
    unfold Ob at ho
    rw [hh] at ho
    injection ho with h2; injection h2 with _ h3
    exact absurd h3 (by decide)
theorem byte1 (w : World) (g base : Nat) (v : Value) (l : List Int) (x : Int) (h : Wr w g base v l) (hl : l.length ≤ 35184372088832) :
    Calls Try.prog 45 #[.pointer (some ⟨g, 0, none⟩), .int .i64 x] w fun e w' => e = .returned (.tuple #[]) ∧ Below base w w' ∧ ∃ v', Wr w' g base v' (l ++ [x % 256]) := by
  have c0 := h.ob.cell 0
  have f0 := h.ob.frozen 0
  have hlow := h.low
  have hsz : base ≤ w.heap.size := Nat.le_of_lt (Nat.lt_of_le_of_lt h.low h.ob.lt)
  have H := hid h; clear h
  have hk : IntKind.u64.wrap x % 256 = x % 256 := by rw [IntKind.wrap_u64]; omega
  have HWF : Hid (∀ z ∈ [x % 256], (Lit.int .u8 z).wf = true) := hid (by intro z hz; simp at hz; apply (Lit.wf_int_iff .u8 z).2; show 0 ≤ z ∧ z ≤ 255; omega)
  go_enter Try.func45, Try.ntmps45
  go_wp2_with (at_builtin; refine wpList_app _ rfl (.tmp 10) (.tmp 14) _ rfl elemB base v l rfl ?c1 (some ⟨w.heap.size, 0, none⟩) 1 1 [x % 256] rfl ?c2 ?c3 ?c4 ?c5 ?c6 ?_)
  case c1 => exact H.out.own.alloc _
  case c2 => exact (Own.lit .u8 5 w base [x % 256] _ 1 rfl rfl hsz (by simp [maxLen]) HWF.out).rd
  case c3 => simp
  case c4 => omega
  case c5 => unfold maxLen; omega
  case c6 => simp; omega
  intro v1 w1 hv hg hb
  have V1 := hid hv
  have hB : Below base w w1 := ((Below.refl base w).alloc hsz _).grown hg (by simp; omega) (fun k hk => (H.out.own.lt k hk).1)
  have hO : Ob w1 g 91 #[v] := by
    have h1 := H.out.ob.alloc (.cells (([x % 256] : List Int).map (Value.int .u8)).toArray 5)
    exact (hg.block g h1.lt (fun e => H.out.apart e.symm)).trans h1
  obtain ⟨A1, cap1, ev1, _, _, _, _⟩ := V1.out.slice
  simp only [List.length_append, List.length_cons, List.length_nil, Nat.zero_add, Nat.reduceAdd] at ev1
  subst ev1
  have c1 := hO.cell 0
  have f1 := hO.frozen 0
  have HB := hid hB; have HO := hid hO
  clear hv hg hb hB hO c0 f0
  go_wp2
  refine bodyPost_end (results_none rfl _ _ _) rfl ?_
  refine ⟨rfl, HB.out.setCell hlow _, _, HO.out.set 0 _, V1.out.only ((Only.refl [g] w1).setCell (p := ⟨g, 0, none⟩) (Or.inl (by simp)) _) ?_, hlow⟩
  intro k hk hm
  obtain rfl : k = g := by simpa using hm
  exact own_ne HO.out V1.out hk
theorem two1 (w : World) (g base : Nat) (v : Value) (l : List Int) (x : Int) (h : Wr w g base v l) (hl : l.length ≤ 35184372088832) :
    Calls Try.prog 46 #[.pointer (some ⟨g, 0, none⟩), .int .i64 x] w fun e w' => e = .returned (.tuple #[]) ∧ Below base w w' ∧ ∃ v', Wr w' g base v' (l ++ [x / 256 % 256, x % 256]) := by
  have c0 := h.ob.cell 0
  have f0 := h.ob.frozen 0
  have hlow := h.low
  have hsz : base ≤ w.heap.size := Nat.le_of_lt (Nat.lt_of_le_of_lt h.low h.ob.lt)
  have H := hid h; clear h
  have hk : IntKind.u64.wrap x % 256 = x % 256 := by rw [IntKind.wrap_u64]; omega
  have hk2 : IntKind.u64.wrap x / 256 % 256 = x / 256 % 256 := by rw [IntKind.wrap_u64]; omega
  have HWF : Hid (∀ z ∈ [x / 256 % 256, x % 256], (Lit.int .u8 z).wf = true) := hid (by intro z hz; simp at hz; apply (Lit.wf_int_iff .u8 z).2; show 0 ≤ z ∧ z ≤ 255; omega)
  go_enter Try.func46, Try.ntmps46
  go_wp2_with (at_builtin; refine wpList_app _ rfl (.tmp 10) (.tmp 18) _ rfl elemB base v l rfl ?c1 (some ⟨w.heap.size, 0, none⟩) 2 2 [x / 256 % 256, x % 256] rfl ?c2 ?c3 ?c4 ?c5 ?c6 ?_)
  case c1 => exact H.out.own.alloc _
  case c2 => exact (Own.lit .u8 5 w base [x / 256 % 256, x % 256] _ 2 rfl rfl hsz (by simp [maxLen]) HWF.out).rd
  case c3 => simp
  case c4 => omega
  case c5 => unfold maxLen; omega
  case c6 => simp; omega
  intro v1 w1 hv hg hb
  have V1 := hid hv
  have hB : Below base w w1 := ((Below.refl base w).alloc hsz _).grown hg (by simp; omega) (fun k hk => (H.out.own.lt k hk).1)
  have hO : Ob w1 g 91 #[v] := by
    have h1 := H.out.ob.alloc (.cells (([x / 256 % 256, x % 256] : List Int).map (Value.int .u8)).toArray 5)
    exact (hg.block g h1.lt (fun e => H.out.apart e.symm)).trans h1
  obtain ⟨A1, cap1, ev1, _, _, _, _⟩ := V1.out.slice
  simp only [List.length_append, List.length_cons, List.length_nil, Nat.zero_add, Nat.reduceAdd] at ev1
  subst ev1
  have c1 := hO.cell 0
  have f1 := hO.frozen 0
  have HB := hid hB; have HO := hid hO
  clear hv hg hb hB hO c0 f0
  go_wp2
  refine bodyPost_end (results_none rfl _ _ _) rfl ?_
  refine ⟨rfl, HB.out.setCell hlow _, _, HO.out.set 0 _, V1.out.only ((Only.refl [g] w1).setCell (p := ⟨g, 0, none⟩) (Or.inl (by simp)) _) ?_, hlow⟩
  intro k hk hm
  obtain rfl : k = g := by simpa using hm
  exact own_ne HO.out V1.out hk
theorem four1 (w : World) (g base : Nat) (v : Value) (l : List Int) (x : Int) (h : Wr w g base v l) (hl : l.length ≤ 35184372088832) :
    Calls Try.prog 47 #[.pointer (some ⟨g, 0, none⟩), .int .u32 x] w fun e w' => e = .returned (.tuple #[]) ∧ Below base w w' ∧ ∃ v', Wr w' g base v' (l ++ [x / 16777216 % 256, x / 65536 % 256, x / 256 % 256, x % 256]) := by
  have c0 := h.ob.cell 0
  have f0 := h.ob.frozen 0
  have hlow := h.low
  have hsz : base ≤ w.heap.size := Nat.le_of_lt (Nat.lt_of_le_of_lt h.low h.ob.lt)
  have H := hid h; clear h
  have HWF : Hid (∀ z ∈ [x / 16777216 % 256, x / 65536 % 256, x / 256 % 256, x % 256], (Lit.int .u8 z).wf = true) := hid (by intro z hz; simp at hz; apply (Lit.wf_int_iff .u8 z).2; show 0 ≤ z ∧ z ≤ 255; omega)
  go_enter Try.func47, Try.ntmps47
  go_wp2_with (at_builtin; refine wpList_app _ rfl (.tmp 10) (.tmp 22) _ rfl elemB base v l rfl ?c1 (some ⟨w.heap.size, 0, none⟩) 4 4 [x / 16777216 % 256, x / 65536 % 256, x / 256 % 256, x % 256] rfl ?c2 ?c3 ?c4 ?c5 ?c6 ?_)
  case c1 => exact H.out.own.alloc _
  case c2 => exact (Own.lit .u8 5 w base [x / 16777216 % 256, x / 65536 % 256, x / 256 % 256, x % 256] _ 4 rfl rfl hsz (by simp [maxLen]) HWF.out).rd
  case c3 => simp
  case c4 => omega
  case c5 => unfold maxLen; omega
  case c6 => simp; omega
  intro v1 w1 hv hg hb
  have V1 := hid hv
  have hB : Below base w w1 := ((Below.refl base w).alloc hsz _).grown hg (by simp; omega) (fun k hk => (H.out.own.lt k hk).1)
  have hO : Ob w1 g 91 #[v] := by
    have h1 := H.out.ob.alloc (.cells (([x / 16777216 % 256, x / 65536 % 256, x / 256 % 256, x % 256] : List Int).map (Value.int .u8)).toArray 5)
    exact (hg.block g h1.lt (fun e => H.out.apart e.symm)).trans h1
  obtain ⟨A1, cap1, ev1, _, _, _, _⟩ := V1.out.slice
  simp only [List.length_append, List.length_cons, List.length_nil, Nat.zero_add, Nat.reduceAdd] at ev1
  subst ev1
  have c1 := hO.cell 0
  have f1 := hO.frozen 0
  have HB := hid hB; have HO := hid hO
  clear hv hg hb hB hO c0 f0
  go_wp2
  refine bodyPost_end (results_none rfl _ _ _) rfl ?_
  refine ⟨rfl, HB.out.setCell hlow _, _, HO.out.set 0 _, V1.out.only ((Only.refl [g] w1).setCell (p := ⟨g, 0, none⟩) (Or.inl (by simp)) _) ?_, hlow⟩
  intro k hk hm
  obtain rfl : k = g := by simpa using hm
  exact own_ne HO.out V1.out hk
set_option maxHeartbeats 1000000 in
theorem clone1 (w : World) (A : Option Addr) (n c : Nat) (l : List Int) (hl : Rd .u8 w A n l) (hc0 : A = none → c = 0) (hn : n ≤ 70368744177664) :
    Calls Try.prog 51 #[.slice A n c] w fun x w' => ∃ v, x = .returned v ∧ Own .u8 5 w' w.heap.size v l ∧ Only [] w w' := by
  rcases A with _ | ad
  · have hn0 : n = 0 := by
      rcases Nat.eq_zero_or_pos n with h0 | h0
      · exact h0
      · obtain ⟨b, off, h, _⟩ := hl.cells h0; cases h
    subst hn0
    have hl0 : l = [] := List.eq_nil_of_length_eq_zero hl.len
    subst hl0
    rw [hc0 rfl]
    have kn : ∀ w : World, Sem.run Try.prog (binOp BinOp.eql 26 (Value.slice none 0 0) (Value.slice none 0 0)) w = Result.ok (Value.bool true) w := fun _ => by kernel_rfl
    go_enter Try.func51, Try.ntmps51
    go_wp2
    go_ret
    exact ⟨_, rfl, Own.nil _ _ _ _, Only.refl _ _⟩
  · have kn : ∀ w : World, Sem.run Try.prog (binOp BinOp.eql 26 (Value.slice (some ad) n c) (Value.slice none 0 0)) w = Result.ok (Value.bool false) w := fun _ => by kernel_rfl
    have H0 : Hid (Own .u8 5 (w.alloc (.cells #[] 5)) w.heap.size (.slice (some ⟨w.heap.size, 0, none⟩) 0 0) []) := hid (Own.lit .u8 _ w w.heap.size [] _ 0 rfl rfl (Nat.le_refl _) (by decide) (by simp))
    go_enter Try.func51, Try.ntmps51
    go_wp2_with (at_builtin; refine wpList_app _ rfl (.tmp 5) (.tmp 6) _ rfl elemB w.heap.size _ [] rfl ?c1 (some ad) n c l rfl ?c2 ?c3 ?c4 ?c5 ?c6 ?_)
    case c1 => exact H0.out
    case c2 => exact hl.alloc _
    case c3 => simp
    case c4 => simp; omega
    case c5 => unfold maxLen; simp; omega
    case c6 => simp
    intro v1 w1 hv hg _
    have V1 : Hid (Own .u8 5 w1 w.heap.size v1 l) := hid hv
    have K1 : Hid (Only [] w w1) := hid (((Only.refl [] w).alloc _).of_grown hg (by intro k hk; simp [Value.ownBlock] at hk; exact .inr (by omega)))
    clear hv hg
    go_wp2
    go_ret
    exact ⟨v1, rfl, V1.out, K1.out⟩
theorem bytes1 (w : World) (g base : Nat) (v : Value) (l : List Int) (h : Wr w g base v l) (hl : l.length ≤ 35184372088832) :
    Calls Try.prog 48 #[.pointer (some ⟨g, 0, none⟩)] w fun x w' => ∃ v', x = .returned v' ∧ Own .u8 5 w' w.heap.size v' l ∧ Only [] w w' := by
  obtain ⟨A1, cap1, ev, _, _, hr, _⟩ := h.own.slice
  have hc0 : A1 = none → cap1 = 0 := by
    intro e; subst e
    rcases h.own.1.2 with ⟨hv, _⟩ | ⟨g', cap', cur, hv, _⟩
    · rw [ev] at hv; injection hv
    · rw [ev] at hv; cases hv
  subst ev
  have c0 := h.ob.cell 0
  have HR := hid hr; clear hr h
  go_enter Try.func48, Try.ntmps48
  go_wp2_with fail
  refine (clone1 w A1 l.length cap1 l HR.out hc0 (by omega)).mono ?_
  rintro x w1 ⟨v1, rfl, hv, o1⟩
  obtain ⟨A2, cap2, ev2, _, _, _, _⟩ := hv.slice
  subst ev2
  have V1 := hid hv; have O1 := hid o1; clear hv o1
  go_wp2
  go_ret
  exact ⟨_, rfl, V1.out, O1.out⟩
end Go.Proofs.Ytodcjokafjdhdaa.wrt
