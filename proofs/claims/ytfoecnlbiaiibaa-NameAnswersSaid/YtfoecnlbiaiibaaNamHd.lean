/-
  Chapter 21 (name): what a question and an answer begin with, by a walk of its text. Conditions: none but those typed.
-/
import Derived.Test.YtfoecnlbiaiibaaNamX
namespace Go.Proofs.Ytfoecnlbiaiibaa.nam
set_option linter.unusedVariables false
set_option linter.unusedSimpArgs false
open Go.ChangeShapes Go.WideShapes Go.ChangeAt Go.RowKit Go.IntWalk Go.Lib
set_option maxHeartbeats 1000000 in
theorem two2 (w : World) (g base : Nat) (v : Value) (l : List Int) (x : Int) (h : wrt.Wr w g base v l) (hl : l.length ≤ 35184372088832) :
    Calls Try.prog 31 #[.pointer (some ⟨g, 0, none⟩), .int .i64 x] w fun e w' => e = .returned (.tuple #[]) ∧ Below base w w' ∧ ∃ v', wrt.Wr w' g base v' (l ++ [x / 256 % 256, x % 256]) ∧ Only (g :: v.ownBlock.toList) w w' := by
  have c0 := h.ob.cell 0
  have f0 := h.ob.frozen 0
  have hlow := h.low
  have hsz : base ≤ w.heap.size := Nat.le_of_lt (Nat.lt_of_le_of_lt h.low h.ob.lt)
  have H := hid h; clear h
  have hk : IntKind.u64.wrap x % 256 = x % 256 := by rw [IntKind.wrap_u64]; omega
  have hk2 : IntKind.u64.wrap x / 256 % 256 = x / 256 % 256 := by rw [IntKind.wrap_u64]; omega
  have HWF : Hid (∀ z ∈ [x / 256 % 256, x % 256], (Lit.int .u8 z).wf = true) := hid (by intro z hz; simp at hz; apply (Lit.wf_int_iff .u8 z).2; show 0 ≤ z ∧ z ≤ 255; omega)
  go_enter Try.func31, Try.ntmps31
  go_wp2_with (at_builtin; refine wpList_app _ rfl (.tmp 10) (.tmp 18) _ rfl wrt.elemB base v l rfl ?c1 (some ⟨w.heap.size, 0, none⟩) 2 2 [x / 256 % 256, x % 256] rfl ?c2 ?c3 ?c4 ?c5 ?c6 ?_)
  case c1 => exact H.out.own.alloc _
  case c2 => exact (Own.lit .u8 5 w base [x / 256 % 256, x % 256] _ 2 rfl rfl hsz (by simp [maxLen]) HWF.out).rd
  case c3 => simp
  case c4 => omega
  case c5 => unfold maxLen; omega
  case c6 => simp; omega
  intro v1 w1 hv hg hb
  have V1 := hid hv
  have HOO : Hid (Only (g :: v.ownBlock.toList) w w1) := hid (((Only.refl _ w).alloc _).of_grown hg (fun k hk => .inl (by rw [hk]; simp)))
  have hB : Below base w w1 := ((Below.refl base w).alloc hsz _).grown hg (by simp; omega) (fun k hk => (H.out.own.lt k hk).1)
  have hO : Ob w1 g 53 #[v] := by
    have h1 := H.out.ob.alloc (.cells (([x / 256 % 256, x % 256] : List Int).map (Value.int .u8)).toArray 5)
    exact (hg.block g h1.lt (fun e => H.out.apart e.symm)).trans h1
  obtain ⟨A1, cap1, ev1, _, _, _, _⟩ := V1.out.slice
  simp only [List.length_append, List.length_cons, List.length_nil, Nat.zero_add, Nat.reduceAdd] at ev1
  subst ev1
  have c1 := hO.cell 0
  have f1 := hO.frozen 0
  have HB := hid hB; have HO := hid hO
  clear hv hg hb hB hO c0 f0
  go_wp2
  refine bodyPost_end (results_none rfl _ _ _) rfl ?_
  refine ⟨rfl, HB.out.setCell hlow _, _, ⟨HO.out.set 0 _, V1.out.only ((Only.refl [g] w1).setCell (p := ⟨g, 0, none⟩) (Or.inl (by simp)) _) ?_, hlow⟩, HOO.out.setCell (p := ⟨g, 0, none⟩) (Or.inl (by simp)) _⟩
  intro k hk hm
  obtain rfl : k = g := by simpa using hm
  exact wrt.own_ne HO.out V1.out hk
/-- P21.3: a record's name, Type and Class. -/
@[irreducible] def hd (s : ByteArray) (ty cl : Int) : List Int := (packs (chs s)).1 ++ [ty / 256 % 256, ty % 256] ++ [cl / 256 % 256, cl % 256]
theorem hd_eq (s : ByteArray) (ty cl : Int) : hd s ty cl = (packs (chs s)).1 ++ [ty / 256 % 256, ty % 256] ++ [cl / 256 % 256, cl % 256] := by unfold hd; rfl
theorem packs_size (L : List Int) : (packs L).1.length ≤ 20000 := by
  unfold packs
  split
  · simp
  · rename_i h
    split
    · rename_i ok
      have h1 := pk_len _ ok
      have h2 := labs_size L
      show (pk (labsOf L) ++ [0]).length ≤ 20000
      simp; omega
    · simp
theorem hd_size (s : ByteArray) (ty cl : Int) : (hd s ty cl).length ≤ 20004 := by
  rw [hd_eq]
  have := packs_size (chs s)
  simp; omega
theorem ob_own_ne {w : World} {t e : TypeId} (hne : t ≠ e) {b base sz n : Nat} {cs : Array Value} {v : Value} {xs : List Value} (h1 : Ob w b t cs) (h2 : w.ownsRow base e sz v n xs) : v.ownBlock ≠ some b := by
  intro g2
  rcases h2.2 with ⟨hv, _⟩ | ⟨p, cap, cur, hv, _, hh, _⟩
  · rw [hv] at g2; cases g2
  · rw [hv] at g2
    have q1 : p = b := by simpa [Value.ownBlock] using g2
    subst q1
    have h3 : w.heap[p]? = some (.cells cs t) := h1
    rw [hh] at h3
    injection h3 with h3
    injection h3 with _ he _
    exact hne he.symm
set_option maxHeartbeats 2000000 in
theorem headL (w : World) (g base : Nat) (v : Value) (l : List Int) (s : ByteArray) (ty cl ttl : Int) (A : Option Addr) (n c : Nat) (h : wrt.Wr w g base v l) (hl : l.length ≤ 17592186044416) (hs : s.size ≤ maxLen) :
    Calls Try.prog 32 #[.pointer (some ⟨g, 0, none⟩), .agg #[.string s, .int .i64 ty, .int .i64 cl, .int .i64 ttl, .slice A n c]] w fun x w' => x = .returned (.tuple #[]) ∧ Below base w w' ∧ ∃ v', wrt.Wr w' g base v' (l ++ hd s ty cl) := by
  have hpz := packs_size (chs s)
  have hsz : base ≤ w.heap.size := Nat.le_of_lt (Nat.lt_of_le_of_lt h.low h.ob.lt)
  have hgr : w.heap.size ≠ g := Nat.ne_of_gt h.ob.lt
  have HHd := hid (hd_eq s ty cl)
  obtain ⟨W0, hW0⟩ : ∃ W0, w.alloc (.cells #[.string s, .int .i64 ty, .int .i64 cl, .int .i64 ttl, .slice A n c] 46) = W0 := ⟨_, rfl⟩
  have HPL := hid (packL W0 s hs)
  have o0 : Only [] w W0 := by rw [← hW0]; exact (Only.refl [] w).alloc _
  have C0 : Hid (Ob W0 w.heap.size 46 #[.string s, .int .i64 ty, .int .i64 cl, .int .i64 ttl, .slice A n c]) := hid (by rw [← hW0]; exact Ob.new _ _ _)
  have H0 := hid (h.only_nil o0)
  have B0 : Hid (Below base w W0) := hid (Only.below (Below.refl base w) o0 hsz (by simp))
  have cs0 := C0.out.cell 0
  obtain ⟨P, hP⟩ : ∃ P, (packs (chs s)).1 = P := ⟨_, rfl⟩
  rw [hP] at HHd HPL hpz
  clear h hP o0
  go_enter Try.func32, Try.ntmps32
  go_wp2_with fail
  refine HPL.out.mono ?_
  rintro x w1 ⟨v1, rfl, hv1, o1⟩
  have V1 := hid hv1
  have H1 := hid (H0.out.only_nil o1)
  have hsz1 := B0.out.size
  have B1 : Hid (Below base w w1) := hid (Only.below B0.out o1 (Nat.le_trans hsz hsz1) (by simp))
  have C1 := hid (C0.out.only o1 (by simp))
  clear hv1 o1 hW0 cs0 hsz1
  obtain ⟨A1, c1, rfl, hnc1, hcm1, _, _⟩ := V1.out.slice
  go_wp2_with fail
  refine (wrt.raw2 w1 g base v l A1 P.length c1 P H1.out (by omega) V1.out.rd (own_notNil V1.out rfl) (by omega)).mono ?_
  rintro x w2 ⟨rfl, b2, v2, hw2, _, o2⟩
  have H2 := hid hw2
  have B2 := hid (B1.out.trans b2)
  have C2 := hid (C1.out.only o2 (fun hm => by
    rcases List.mem_cons.1 hm with h9 | h9
    · exact hgr h9
    · exact ob_own_ne (by decide) C1.out H1.out.own.1 (by simpa using h9)))
  have ct2 := C2.out.cell 1
  have cc2 := C2.out.cell 2
  clear hw2 b2 o2
  go_wp2_with fail
  refine (two2 w2 g base v2 (l ++ P) ty H2.out (by rw [List.length_append]; omega)).mono ?_
  rintro x w3 ⟨rfl, b3, v3, hw3, o3⟩
  have H3 := hid hw3
  have B3 := hid (B2.out.trans b3)
  have C3 := hid (C2.out.only o3 (fun hm => by
    rcases List.mem_cons.1 hm with h9 | h9
    · exact hgr h9
    · exact ob_own_ne (by decide) C2.out H2.out.own.1 (by simpa using h9)))
  have ct3 := C3.out.cell 1
  have cc3 := C3.out.cell 2
  clear hw3 b3 o3
  go_wp2_with fail
  refine (two2 w3 g base v3 _ cl H3.out (by rw [List.length_append, List.length_append]; simp; omega)).mono ?_
  rintro x w4 ⟨rfl, b4, v4, hw4, o4⟩
  have H4 := hid hw4
  have B4 := hid (B3.out.trans b4)
  have C4 := hid (C3.out.only o4 (fun hm => by
    rcases List.mem_cons.1 hm with h9 | h9
    · exact hgr h9
    · exact ob_own_ne (by decide) C3.out H3.out.own.1 (by simpa using h9)))
  have ct4 := C4.out.cell 1
  have cc4 := C4.out.cell 2
  clear hw4 b4 o4
  go_wp2_with fail
  refine bodyPost_end (results_none rfl _ _ _) rfl ?_
  refine ⟨rfl, B4.out, v4, ?_⟩
  rw [HHd.out]
  have h9 := H4.out
  simpa using h9
end Go.Proofs.Ytfoecnlbiaiibaa.nam
