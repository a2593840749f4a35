/-
  Chapter 21 (name): what a Writer's calls leave as it was; records as lists. Conditions: none but those typed.
-/
import Derived.Test.YtfoecnlbiaiibaaNamHm
namespace Go.Proofs.Ytfoecnlbiaiibaa.nam
set_option linter.unusedVariables false
set_option linter.unusedSimpArgs false
open Go.ChangeShapes Go.WideShapes Go.ChangeAt Go.RowKit Go.IntWalk Go.Lib
/-- Objects that are no bytes, and not g, are as they were. -/
def Kp (g : Nat) (w w' : World) : Prop := ∀ (k : Nat) (T : TypeId) (cs : Array Value), T ≠ 5 → k ≠ g → Ob w k T cs → Ob w' k T cs
theorem Kp.refl (g : Nat) (w : World) : Kp g w w := fun _ _ _ _ _ h => h
theorem Kp.trans {g : Nat} {a b c : World} (h : Kp g a b) (k : Kp g b c) : Kp g a c := fun i T cs h1 h2 h3 => k i T cs h1 h2 (h i T cs h1 h2 h3)
theorem Kp.of_nil {g : Nat} {a b : World} (o : Only [] a b) : Kp g a b := fun i T cs h1 h2 h3 => h3.only o (by simp)
theorem Kp.of_wr {g base : Nat} {v : Value} {l : List Int} {a b : World} (h : wrt.Wr a g base v l) (o : Only (g :: v.ownBlock.toList) a b) : Kp g a b := fun i T cs h1 h2 h3 => h3.only o (fun hm => by
  rcases List.mem_cons.1 hm with h9 | h9
  · exact h2 h9
  · exact ob_own_ne h1 h3 h.own.1 (by simpa using h9))
set_option maxHeartbeats 1000000 in
theorem four2 (w : World) (g base : Nat) (v : Value) (l : List Int) (x : Int) (h : wrt.Wr w g base v l) (hl : l.length ≤ 35184372088832) :
    Calls Try.prog 33 #[.pointer (some ⟨g, 0, none⟩), .int .u32 x] w fun e w' => e = .returned (.tuple #[]) ∧ Below base w w' ∧ ∃ v', wrt.Wr w' g base v' (l ++ [x / 16777216 % 256, x / 65536 % 256, x / 256 % 256, x % 256]) ∧ Only (g :: v.ownBlock.toList) w w' := by
  have c0 := h.ob.cell 0
  have f0 := h.ob.frozen 0
  have hlow := h.low
  have hsz : base ≤ w.heap.size := Nat.le_of_lt (Nat.lt_of_le_of_lt h.low h.ob.lt)
  have H := hid h; clear h
  have HWF : Hid (∀ z ∈ [x / 16777216 % 256, x / 65536 % 256, x / 256 % 256, x % 256], (Lit.int .u8 z).wf = true) := hid (by intro z hz; simp at hz; apply (Lit.wf_int_iff .u8 z).2; show 0 ≤ z ∧ z ≤ 255; omega)
  go_enter Try.func33, Try.ntmps33
  go_wp2_with (at_builtin; refine wpList_app _ rfl (.tmp 10) (.tmp 22) _ rfl wrt.elemB base v l rfl ?c1 (some ⟨w.heap.size, 0, none⟩) 4 4 [x / 16777216 % 256, x / 65536 % 256, x / 256 % 256, x % 256] rfl ?c2 ?c3 ?c4 ?c5 ?c6 ?_)
  case c1 => exact H.out.own.alloc _
  case c2 => exact (Own.lit .u8 5 w base [x / 16777216 % 256, x / 65536 % 256, x / 256 % 256, x % 256] _ 4 rfl rfl hsz (by simp [maxLen]) HWF.out).rd
  case c3 => simp
  case c4 => omega
  case c5 => unfold maxLen; omega
  case c6 => simp; omega
  intro v1 w1 hv hg hb
  have V1 := hid hv
  have HOO : Hid (Only (g :: v.ownBlock.toList) w w1) := hid (((Only.refl _ w).alloc _).of_grown hg (fun k hk => .inl (by rw [hk]; simp)))
  have hB : Below base w w1 := ((Below.refl base w).alloc hsz _).grown hg (by simp; omega) (fun k hk => (H.out.own.lt k hk).1)
  have hO : Ob w1 g 53 #[v] := by
    have h1 := H.out.ob.alloc (.cells (([x / 16777216 % 256, x / 65536 % 256, x / 256 % 256, x % 256] : List Int).map (Value.int .u8)).toArray 5)
    exact (hg.block g h1.lt (fun e => H.out.apart e.symm)).trans h1
  obtain ⟨A1, cap1, ev1, _, _, _, _⟩ := V1.out.slice
  simp only [List.length_append, List.length_cons, List.length_nil, Nat.zero_add, Nat.reduceAdd] at ev1
  subst ev1
  have c1 := hO.cell 0
  have f1 := hO.frozen 0
  have HB := hid hB; have HO := hid hO
  clear hv hg hb hB hO c0 f0
  go_wp2
  refine bodyPost_end (results_none rfl _ _ _) rfl ?_
  refine ⟨rfl, HB.out.setCell hlow _, _, ⟨HO.out.set 0 _, V1.out.only ((Only.refl [g] w1).setCell (p := ⟨g, 0, none⟩) (Or.inl (by simp)) _) ?_, hlow⟩, HOO.out.setCell (p := ⟨g, 0, none⟩) (Or.inl (by simp)) _⟩
  intro k hk hm
  obtain rfl : k = g := by simpa using hm
  exact wrt.own_ne HO.out V1.out hk
set_option maxHeartbeats 2000000 in
theorem headK (w : World) (g base : Nat) (v : Value) (l : List Int) (s : ByteArray) (ty cl ttl : Int) (A : Option Addr) (n c : Nat) (h : wrt.Wr w g base v l) (hl : l.length ≤ 17592186044416) (hs : s.size ≤ maxLen) :
    Calls Try.prog 32 #[.pointer (some ⟨g, 0, none⟩), .agg #[.string s, .int .i64 ty, .int .i64 cl, .int .i64 ttl, .slice A n c]] w fun x w' => x = .returned (.tuple #[]) ∧ Below base w w' ∧ (∃ v', wrt.Wr w' g base v' (l ++ hd s ty cl)) ∧ Kp g w w' := by
  have hpz := packs_size (chs s)
  have hsz : base ≤ w.heap.size := Nat.le_of_lt (Nat.lt_of_le_of_lt h.low h.ob.lt)
  have hgr : w.heap.size ≠ g := Nat.ne_of_gt h.ob.lt
  have HHd := hid (hd_eq s ty cl)
  obtain ⟨W0, hW0⟩ : ∃ W0, w.alloc (.cells #[.string s, .int .i64 ty, .int .i64 cl, .int .i64 ttl, .slice A n c] 46) = W0 := ⟨_, rfl⟩
  have HPL := hid (packL W0 s hs)
  have o0 : Only [] w W0 := by rw [← hW0]; exact (Only.refl [] w).alloc _
  have C0 : Hid (Ob W0 w.heap.size 46 #[.string s, .int .i64 ty, .int .i64 cl, .int .i64 ttl, .slice A n c]) := hid (by rw [← hW0]; exact Ob.new _ _ _)
  have H0 := hid (h.only_nil o0)
  have K0 : Hid (Kp g w W0) := hid (Kp.of_nil o0)
  have B0 : Hid (Below base w W0) := hid (Only.below (Below.refl base w) o0 hsz (by simp))
  have cs0 := C0.out.cell 0
  obtain ⟨P, hP⟩ : ∃ P, (packs (chs s)).1 = P := ⟨_, rfl⟩
  rw [hP] at HHd HPL hpz
  clear h hP o0
  go_enter Try.func32, Try.ntmps32
  go_wp2_with fail
  refine HPL.out.mono ?_
  rintro x w1 ⟨v1, rfl, hv1, o1⟩
  have V1 := hid hv1
  have H1 := hid (H0.out.only_nil o1)
  have hsz1 := B0.out.size
  have B1 : Hid (Below base w w1) := hid (Only.below B0.out o1 (Nat.le_trans hsz hsz1) (by simp))
  have C1 := hid (C0.out.only o1 (by simp))
  have K1 := hid (K0.out.trans (Kp.of_nil o1))
  clear hv1 o1 hW0 cs0 hsz1
  obtain ⟨A1, c1, rfl, hnc1, hcm1, _, _⟩ := V1.out.slice
  go_wp2_with fail
  refine (wrt.raw2 w1 g base v l A1 P.length c1 P H1.out (by omega) V1.out.rd (own_notNil V1.out rfl) (by omega)).mono ?_
  rintro x w2 ⟨rfl, b2, v2, hw2, _, o2⟩
  have K2 := hid (K1.out.trans (Kp.of_wr H1.out o2))
  have H2 := hid hw2
  have B2 := hid (B1.out.trans b2)
  have C2 := hid (C1.out.only o2 (fun hm => by
    rcases List.mem_cons.1 hm with h9 | h9
    · exact hgr h9
    · exact ob_own_ne (by decide) C1.out H1.out.own.1 (by simpa using h9)))
  have ct2 := C2.out.cell 1
  have cc2 := C2.out.cell 2
  clear hw2 b2 o2
  go_wp2_with fail
  refine (two2 w2 g base v2 (l ++ P) ty H2.out (by rw [List.length_append]; omega)).mono ?_
  rintro x w3 ⟨rfl, b3, v3, hw3, o3⟩
  have K3 := hid (K2.out.trans (Kp.of_wr H2.out o3))
  have H3 := hid hw3
  have B3 := hid (B2.out.trans b3)
  have C3 := hid (C2.out.only o3 (fun hm => by
    rcases List.mem_cons.1 hm with h9 | h9
    · exact hgr h9
    · exact ob_own_ne (by decide) C2.out H2.out.own.1 (by simpa using h9)))
  have ct3 := C3.out.cell 1
  have cc3 := C3.out.cell 2
  clear hw3 b3 o3
  go_wp2_with fail
  refine (two2 w3 g base v3 _ cl H3.out (by rw [List.length_append, List.length_append]; simp; omega)).mono ?_
  rintro x w4 ⟨rfl, b4, v4, hw4, o4⟩
  have K4 := hid (K3.out.trans (Kp.of_wr H3.out o4))
  have H4 := hid hw4
  have B4 := hid (B3.out.trans b4)
  have C4 := hid (C3.out.only o4 (fun hm => by
    rcases List.mem_cons.1 hm with h9 | h9
    · exact hgr h9
    · exact ob_own_ne (by decide) C3.out H3.out.own.1 (by simpa using h9)))
  have ct4 := C4.out.cell 1
  have cc4 := C4.out.cell 2
  clear hw4 b4 o4
  go_wp2_with fail
  refine bodyPost_end (results_none rfl _ _ _) rfl ?_
  refine ⟨rfl, B4.out, ⟨v4, ?_⟩, K4.out⟩
  rw [HHd.out]
  have h9 := H4.out
  simpa using h9
/-- A record: its parts, and its Data's bytes. -/
structure Rc where
  s : ByteArray
  ty : Int
  cl : Int
  ttl : Int
  A : Option Addr
  n : Nat
  c : Nat
  d : List Int
def Rc.cs (r : Rc) : List Value := [.string r.s, .int .i64 r.ty, .int .i64 r.cl, .int .i64 r.ttl, .slice r.A r.n r.c]
def rcs : List Rc → List Value
  | [] => []
  | r :: L => r.cs ++ rcs L
theorem rcs_app (a b : List Rc) : rcs (a ++ b) = rcs a ++ rcs b := by
  induction a with
  | nil => rfl
  | cons r a ih => show r.cs ++ rcs (a ++ b) = _; rw [ih]; show _ = (r.cs ++ rcs a) ++ rcs b; rw [List.append_assoc]
theorem rcs_len (L : List Rc) : (rcs L).length = L.length * 5 := by
  induction L with
  | nil => rfl
  | cons r L ih => show (r.cs ++ rcs L).length = _; rw [List.length_append, ih, List.length_cons]; show 5 + _ = _; omega
def rc0 : Rc := ⟨⟨#[]⟩, 0, 0, 0, none, 0, 0, []⟩
theorem rcs_at : ∀ (L : List Rc) (k j : Nat), k < L.length → j < 5 → (rcs L)[k * 5 + j]? = (L.getD k rc0).cs[j]?
  | [], k, j, h, _ => by simp at h
  | r :: L, 0, j, _, hj => by
    show (r.cs ++ rcs L)[0 * 5 + j]? = r.cs[j]?
    rw [Nat.zero_mul, Nat.zero_add]
    exact List.getElem?_append_left (show j < 5 from hj)
  | r :: L, k + 1, j, h, hj => by
    show (r.cs ++ rcs L)[(k + 1) * 5 + j]? = (L.getD k rc0).cs[j]?
    rw [← rcs_at L k j (by simpa using h) hj]
    rw [List.getElem?_append_right (show 5 ≤ (k + 1) * 5 + j by omega)]
    congr 1
    show (k + 1) * 5 + j - 5 = k * 5 + j
    omega
/-- A row of records. -/
def RowR (w : World) (A : Option Addr) (L : List Rc) : Prop := RdS w A L.length 5 (rcs L)
theorem RowR.only_nil {w w' : World} {A : Option Addr} {L : List Rc} (h : RowR w A L) (o : Only [] w w') : RowR w' A L := RdS.only_nil h o
theorem RowR.below {w b : World} {A : Option Addr} {L : List Rc} {B : Nat} (h : RowR w A L) (o : Below B w b) (hB : w.heap.size ≤ B) : RowR b A L := RdS.keep h (fun k hk _ => o.block k (by omega))
theorem RowR.at {w : World} {A : Option Addr} {L : List Rc} (h : RowR w A L) (k : Nat) (hk : k < L.length) : ∃ b off, A = some ⟨b, off, none⟩ ∧ b < w.heap.size ∧
    w.cell? ⟨b, off + k * 5, none⟩ = some (.string (L.getD k rc0).s) ∧ w.cell? ⟨b, off + k * 5 + 1, none⟩ = some (.int .i64 (L.getD k rc0).ty) ∧ w.cell? ⟨b, off + k * 5 + 2, none⟩ = some (.int .i64 (L.getD k rc0).cl) ∧ w.cell? ⟨b, off + k * 5 + 3, none⟩ = some (.int .i64 (L.getD k rc0).ttl) ∧ w.cell? ⟨b, off + k * 5 + 4, none⟩ = some (.slice (L.getD k rc0).A (L.getD k rc0).n (L.getD k rc0).c) := by
  obtain ⟨b, off, e, hb, hc⟩ := RdS.cells h (by omega)
  refine ⟨b, off, e, hb, ?_, ?_, ?_, ?_, ?_⟩
  · exact hc (k * 5) _ (by rw [show k * 5 = k * 5 + 0 from rfl, rcs_at L k 0 hk (by omega)]; rfl)
  · have := hc (k * 5 + 1) _ (by rw [rcs_at L k 1 hk (by omega)]; rfl); rwa [← Nat.add_assoc] at this
  · have := hc (k * 5 + 2) _ (by rw [rcs_at L k 2 hk (by omega)]; rfl); rwa [← Nat.add_assoc] at this
  · have := hc (k * 5 + 3) _ (by rw [rcs_at L k 3 hk (by omega)]; rfl); rwa [← Nat.add_assoc] at this
  · have := hc (k * 5 + 4) _ (by rw [rcs_at L k 4 hk (by omega)]; rfl); rwa [← Nat.add_assoc] at this
/-- What the records' Data are. -/
def DatR (w : World) (L : List Rc) : Prop := ∀ r ∈ L, (Rd .u8 w r.A r.n r.d ∧ (r.A = none → r.c = 0) ∧ r.n ≤ 140737488351232 ∧ r.n ≤ r.c) ∧ r.s.size ≤ 140737488351232
theorem DatR.only_nil {w w' : World} {L : List Rc} (h : DatR w L) (o : Only [] w w') : DatR w' L := fun r hr => ⟨⟨(h r hr).1.1.only_nil o, (h r hr).1.2⟩, (h r hr).2⟩
theorem DatR.below {w b : World} {L : List Rc} {B : Nat} (h : DatR w L) (o : Below B w b) (hB : w.heap.size ≤ B) : DatR b L := fun r hr => ⟨⟨(h r hr).1.1.below o hB, (h r hr).1.2⟩, (h r hr).2⟩
theorem rc_mem (L : List Rc) (k : Nat) (h : k < L.length) : L.getD k rc0 ∈ L := by
  rw [List.getD_eq_getElem?_getD, List.getElem?_eq_getElem h]; exact List.getElem_mem h
theorem rc_take (L : List Rc) (k : Nat) (h : k < L.length) : L.take (k + 1) = L.take k ++ [L.getD k rc0] := by
  rw [List.take_succ_eq_append_getElem h, List.getD_eq_getElem?_getD, List.getElem?_eq_getElem h]; rfl
theorem OplM.rows {w : World} {A : Option Addr} {n : Nat} {V0 : Nat → ByteArray} {V1 V2 V3 : Nat → Int} {RA4 : Nat → Option Addr} {RN4 RC4 : Nat → Nat} {P4 : Nat → List Int} (h : OplM w A n V0 V1 V2 V3 RA4 RN4 RC4 P4) : ∃ L : List Rc, L.length = n ∧ RowR w A L ∧ DatR w L ∧ ∀ r ∈ L, (Lit.int .i64 r.ttl).wf = true := by
  have e : ∀ m, mcs V0 V1 V2 V3 RA4 RN4 RC4 m = rcs ((List.range m).map fun i => (⟨V0 i, V1 i, V2 i, V3 i, RA4 i, RN4 i, RC4 i, P4 i⟩ : Rc)) := by
    intro m
    induction m with
    | zero => rfl
    | succ m ih => rw [List.range_succ, List.map_append, rcs_app, ← ih]; rfl
  refine ⟨(List.range n).map fun i => (⟨V0 i, V1 i, V2 i, V3 i, RA4 i, RN4 i, RC4 i, P4 i⟩ : Rc), by simp, ?_, ?_, ?_⟩
  · show RdS w A _ 5 _
    rw [← e n]
    simpa using OplM.rdS h
  · intro r hr
    obtain ⟨i, hi, rfl⟩ := List.mem_map.1 hr
    have := h.rd i (by simpa using hi)
    exact ⟨this.1, this.2.1⟩
  · intro r hr
    obtain ⟨i, hi, rfl⟩ := List.mem_map.1 hr
    have := h.rd i (by simpa using hi)
    exact this.2.2.2.2
end Go.Proofs.Ytfoecnlbiaiibaa.nam
