/-
  Chapter 7 (frag): packets in rows; bytes that stay as they are. Conditions: none but those typed.
-/
import Derived.Test.YtngaolagifgfjaaFrB
namespace Go.Proofs.Ytngaolagifgfjaa.ip
set_option linter.unusedVariables false
set_option linter.unusedSimpArgs false
open Go.ChangeShapes Go.WideShapes Go.ChangeAt Go.RowKit Go.IntWalk Go.Lib
def isU8 (o : Obj) : Prop := ∃ cs z, o = .cells cs 5 z
/-- No object of bytes has turned, and nothing below base. -/
def KK (base : Nat) (w w' : World) : Prop := (∀ (b : Nat) (o : Obj), w.heap[b]? = some o → isU8 o → w'.heap[b]? = some o) ∧ ∀ b, b < base → w'.heap[b]? = w.heap[b]?
theorem KK.refl (base : Nat) (w : World) : KK base w w := ⟨fun _ _ h _ => h, fun _ _ => rfl⟩
theorem KK.trans {base : Nat} {a b c : World} (h : KK base a b) (k : KK base b c) : KK base a c := ⟨fun i o h1 h2 => k.1 i o (h.1 i o h1 h2) h2, fun i hi => (k.2 i hi).trans (h.2 i hi)⟩
theorem lt_of_some {w : World} {b : Nat} {o : Obj} (h : w.heap[b]? = some o) : b < w.heap.size := by
  rcases Nat.lt_or_ge b w.heap.size with h1 | h1
  · exact h1
  · rw [Array.getElem?_eq_none h1] at h; cases h
theorem KK.of_only {base : Nat} {S : List Nat} {w w' : World} (o : Only S w w') (hb : base ≤ w.heap.size) (hS : ∀ k ∈ S, base ≤ k ∧ ∃ T cs, T ≠ 5 ∧ Ob w k T cs) : KK base w w' := ⟨fun b ob h1 h2 => by
  rw [o.block b (lt_of_some h1) ?_]
  · exact h1
  · intro hm
    obtain ⟨_, T, cs, h3, h4⟩ := hS b hm
    obtain ⟨cs', z, e⟩ := h2
    unfold Ob at h4
    rw [h1, e] at h4
    injection h4 with h4
    injection h4 with _ h5
    exact h3 h5.symm, fun b hb2 => o.block b (by omega) (fun hm => by have := (hS b hm).1; omega)⟩
theorem KK.of_nil {base : Nat} {w w' : World} (o : Only [] w w') (hb : base ≤ w.heap.size) : KK base w w' := KK.of_only o hb (by simp)
theorem KK.of_one {base g : Nat} {w w' : World} {T : TypeId} {cs : Array Value} (o : Only [g] w w') (hb : base ≤ w.heap.size) (h : Ob w g T cs) (hg : base ≤ g) (hT : T ≠ 5) : KK base w w' := KK.of_only o hb (fun k hk => by
  rw [show k = g from by simpa using hk]; exact ⟨hg, T, cs, hT, h⟩)
theorem KK.of_grown {base : Nat} {w w' : World} {v : Value} {B sz n : Nat} {T : TypeId} {xs : List Value} (hv : w.ownsRow B T sz v n xs) (hT : T ≠ 5) (hB : base ≤ B) (hb : base ≤ w.heap.size) (hg : w.grownBy w' v.ownBlock) : KK base w w' := ⟨fun b o h1 h2 => by
  rw [hg.block b (lt_of_some h1) ?_]
  · exact h1
  · intro e
    obtain ⟨cs', z, e2⟩ := h2
    rcases hv.2 with ⟨h3, _⟩ | ⟨p, cap, cur, h3, _, hh, _⟩
    · rw [h3] at e; cases e
    · rw [h3] at e
      have e3 : b = p := by simpa [Value.ownBlock] using e
      subst e3
      rw [hh] at h1
      injection h1 with h1
      rw [e2] at h1
      injection h1 with _ h5
      exact hT h5, fun b hb2 => hg.block b (by omega) (fun e => by have := (own_lt hv b e.symm).1; omega)⟩
/-- Bytes that stay: l at A. -/
def DK (base : Nat) (w : World) (A : Option Addr) (n c : Nat) (l : List Int) : Prop := l.length = n ∧ n ≤ c ∧ c ≤ maxLen ∧ (A = none → c = 0) ∧ ∀ w', KK base w w' → Rd .u8 w' A n l
theorem DK.keep {base : Nat} {w w' : World} {A : Option Addr} {n c : Nat} {l : List Int} (h : DK base w A n c l) (k : KK base w w') : DK base w' A n c l := ⟨h.1, h.2.1, h.2.2.1, h.2.2.2.1, fun w2 h2 => h.2.2.2.2 w2 (k.trans h2)⟩
theorem DK.rd {base : Nat} {w : World} {A : Option Addr} {n c : Nat} {l : List Int} (h : DK base w A n c l) : Rd .u8 w A n l := h.2.2.2.2 w (KK.refl base w)
theorem DK.of_arg {base : Nat} {w : World} {A : Option Addr} {n c : Nat} {l : List Int} (h : Rd .u8 w A n l) (hb : w.heap.size ≤ base) (hnc : n ≤ c) (hcm : c ≤ maxLen) (hz : A = none → c = 0) : DK base w A n c l := ⟨h.len, hnc, hcm, hz, fun w' k => h.keep (fun b hlt _ => k.2 b (by omega))⟩
theorem DK.of_own {base B : Nat} {w : World} {A : Option Addr} {n c : Nat} {l : List Int} (h : Own .u8 5 w B (.slice A n c) l) : DK base w A n c l := by
  obtain ⟨A', c', e, h1, h2, h3, _⟩ := h.slice
  injection e with e1 e2 e3
  subst e1 e2 e3
  refine ⟨rfl, h1, h2, own_notNil h rfl, fun w' k => ?_⟩
  rcases h.1.2 with ⟨hv, hl⟩ | ⟨p, cap, cur, hv, _, hh, _⟩
  · have : l = [] := List.eq_nil_of_length_eq_zero hl
    subst this
    exact Rd.nil _ _ _
  · injection hv with e1 _ _
    refine h3.keep (fun b _ ⟨off, e⟩ => ?_)
    rw [e1] at e
    injection e with e
    injection e with e4 _
    subst e4
    rw [k.1 _ _ hh ⟨_, _, rfl⟩, hh]
theorem DK.take {base : Nat} {w : World} {A : Option Addr} {n c m : Nat} {l : List Int} (h : DK base w A n c l) (hm : m ≤ n) : DK base w A m c (l.take m) := ⟨by rw [List.length_take, h.1]; omega, by have := h.2.1; omega, h.2.2.1, h.2.2.2.1, fun w' k => (h.2.2.2.2 w' k).take m hm⟩
theorem DK.drop {base : Nat} {w : World} {b off n c m : Nat} {l : List Int} (h : DK base w (some ⟨b, off, none⟩) n c l) (hm : m ≤ n) : DK base w (some ⟨b, off + m, none⟩) (n - m) (c - m) (l.drop m) := ⟨by rw [List.length_drop, h.1], by have := h.2.1; omega, by have := h.2.2.1; omega, (fun e => by cases e), fun w' k => (h.2.2.2.2 w' k).drop m hm⟩
/-- A packet. -/
structure Pk where
  sv : Int
  pid : Int
  wh : Bool
  mo : Bool
  off : Int
  lf : Int
  pr : Int
  fr : Int
  to : Int
  oA : Option Addr
  oc : Nat
  o : List Int
  dA : Option Addr
  dc : Nat
  d : List Int
def Pk.cs (p : Pk) : List Value := [.int .i64 p.sv, .int .i64 p.pid, .bool p.wh, .bool p.mo, .int .i64 p.off, .int .i64 p.lf, .int .i64 p.pr, .int .u32 p.fr, .int .u32 p.to, .slice p.oA p.o.length p.oc, .slice p.dA p.d.length p.dc]
def pcs : List Pk → List Value
  | [] => []
  | r :: L => r.cs ++ pcs L
theorem pcs_app (a b : List Pk) : pcs (a ++ b) = pcs a ++ pcs b := by
  induction a with
  | nil => rfl
  | cons r a ih => show r.cs ++ pcs (a ++ b) = _; rw [ih]; show _ = (r.cs ++ pcs a) ++ pcs b; rw [List.append_assoc]
theorem pcs_len (L : List Pk) : (pcs L).length = L.length * 11 := by
  induction L with
  | nil => rfl
  | cons r L ih => show (r.cs ++ pcs L).length = _; rw [List.length_append, ih, List.length_cons]; show 11 + _ = _; omega
theorem pcs_one (L : List Pk) : ∀ u ∈ pcs L, u.oneCell' = true := by
  induction L with
  | nil => intro u hu; cases hu
  | cons r L ih =>
    intro u hu
    rcases List.mem_append.1 (show u ∈ r.cs ++ pcs L from hu) with h | h
    · simp only [Pk.cs, List.mem_cons, List.not_mem_nil, or_false] at h
      rcases h with rfl | rfl | rfl | rfl | rfl | rfl | rfl | rfl | rfl | rfl | rfl <;> rfl
    · exact ih u h
def pk0 : Pk := ⟨0, 0, false, false, 0, 0, 0, 0, 0, none, 0, [], none, 0, []⟩
theorem pcs_at : ∀ (L : List Pk) (k j : Nat), k < L.length → j < 11 → (pcs L)[k * 11 + j]? = (L.getD k pk0).cs[j]?
  | [], k, j, h, _ => by simp at h
  | r :: L, 0, j, _, hj => by
    show (r.cs ++ pcs L)[0 * 11 + j]? = r.cs[j]?
    rw [Nat.zero_mul, Nat.zero_add]
    exact List.getElem?_append_left (show j < 11 from hj)
  | r :: L, k + 1, j, h, hj => by
    show (r.cs ++ pcs L)[(k + 1) * 11 + j]? = (L.getD k pk0).cs[j]?
    rw [← pcs_at L k j (by simpa using h) hj]
    rw [List.getElem?_append_right (show 11 ≤ (k + 1) * 11 + j by omega)]
    congr 1
    show (k + 1) * 11 + j - 11 = k * 11 + j
    omega
def RowP (w : World) (A : Option Addr) (L : List Pk) : Prop := RdS w A L.length 11 (pcs L)
theorem RowP.at {w : World} {A : Option Addr} {L : List Pk} (h : RowP w A L) (k : Nat) (hk : k < L.length) : ∃ b off, A = some ⟨b, off, none⟩ ∧ b < w.heap.size ∧ ∀ j u, (L.getD k pk0).cs[j]? = some u → w.cell? ⟨b, off + k * 11 + j, none⟩ = some u := by
  obtain ⟨b, off, e, hb, hc⟩ := RdS.cells h (by omega)
  refine ⟨b, off, e, hb, fun j u hj => ?_⟩
  have hj11 : j < 11 := by
    rcases Nat.lt_or_ge j 11 with h3 | h3
    · exact h3
    · rw [List.getElem?_eq_none (show (L.getD k pk0).cs.length ≤ j from h3)] at hj; cases hj
  have := hc (k * 11 + j) u (by rw [pcs_at L k j hk hj11]; exact hj)
  rwa [← Nat.add_assoc] at this
theorem rdS_pk (w : World) (p : Pk) : RdS (w.alloc (.cells p.cs.toArray 26)) (some ⟨w.heap.size, 0, none⟩) 1 11 p.cs :=
  ⟨rfl, fun u hu => pcs_one [p] u (by simpa [pcs] using hu), fun _ => ⟨w.heap.size, 0, rfl, by simp, fun j u hj => by
    rw [Nat.zero_add, (Ob.new w 26 _).cell]
    simpa using hj⟩⟩
/-- All packets' bytes stay. -/
def PDs (base : Nat) (w : World) (L : List Pk) : Prop := ∀ p ∈ L, DK base w p.oA p.o.length p.oc p.o ∧ DK base w p.dA p.d.length p.dc p.d
theorem PDs.keep {base : Nat} {w w' : World} {L : List Pk} (h : PDs base w L) (k : KK base w w') : PDs base w' L := fun p hp => ⟨(h p hp).1.keep k, (h p hp).2.keep k⟩
theorem PDs.add {base : Nat} {w : World} {L : List Pk} {p : Pk} (h : PDs base w L) (h1 : DK base w p.oA p.o.length p.oc p.o) (h2 : DK base w p.dA p.d.length p.dc p.d) : PDs base w (L ++ [p]) := fun x hx => by
  rcases List.mem_append.1 hx with h3 | h3
  · exact h x h3
  · rw [show x = p from by simpa using h3]; exact ⟨h1, h2⟩
theorem elemPk : ElemS Try.prog 29 26 (.agg #[.int .i64 0, .int .i64 0, .bool false, .bool false, .int .i64 0, .int .i64 0, .int .i64 0, .int .u32 0, .int .u32 0, .slice none 0 0, .slice none 0 0]) 11 104 := ⟨Try.underlying29, by kernel_rfl, by kernel_rfl, by decide⟩
def dat (M : List Pk) : List Int := M.flatMap (·.d)
theorem dat_snoc (M : List Pk) (p : Pk) : dat (M ++ [p]) = dat M ++ p.d := by unfold dat; rw [List.flatMap_append]; simp
/-- Pieces that are as P7.1 has them: piece k of M stands at its place, can be written, fits, and is of eights with more behind it. -/
def OkP (off : Int) (m : Nat) (M : List Pk) (k : Nat) (q : Pk) : Prop := q.off = off + ((dat (M.take k)).length : Int) ∧ chk q.sv q.pid q.off q.lf q.pr q.o q.d.length = 0 ∧ hl q.o.length + q.d.length ≤ m
def InvM (off : Int) (m : Nat) (M : List Pk) : Prop := ∀ k, k < M.length → OkP off m M k (M.getD k pk0) ∧ (M.getD k pk0).mo = true ∧ (M.getD k pk0).d.length % 8 = 0
theorem InvM.add {off : Int} {m : Nat} {M : List Pk} {q : Pk} (h : InvM off m M) (hq : OkP off m (M ++ [q]) M.length q) (h1 : q.mo = true) (h2 : q.d.length % 8 = 0) : InvM off m (M ++ [q]) := fun k hk => by
  by_cases hkm : k < M.length
  · have e : (M ++ [q]).getD k pk0 = M.getD k pk0 := by rw [List.getD_eq_getElem?_getD, List.getD_eq_getElem?_getD, List.getElem?_append_left hkm]
    have e2 : (M ++ [q]).take k = M.take k := List.take_append_of_le_length (by omega)
    rw [e]
    unfold OkP
    rw [e2]
    exact h k hkm
  · have hk2 : k = M.length := by rw [List.length_append] at hk; simp at hk; omega
    subst hk2
    have e : (M ++ [q]).getD M.length pk0 = q := by rw [List.getD_eq_getElem?_getD, List.getElem?_append_right (Nat.le_refl _)]; simp
    rw [e]
    exact ⟨hq, h1, h2⟩
/-- What Split gives: all pieces. -/
def Whole (off : Int) (mo : Bool) (m : Nat) (d : List Int) (M : List Pk) : Prop := ∃ M0 q, M = M0 ++ [q] ∧ InvM off m M0 ∧ OkP off m M M0.length q ∧ q.mo = mo ∧ dat M = d
theorem chk_piece {sv pid off lf pr : Int} {o : List Int} {dn : Nat} (h : chk sv pid off lf pr o dn = 0) {o' : List Int} (ho : Ofs o' true) (hl' : o'.length ≤ o.length) {off' : Int} {n j : Nat} (h1 : off' = off + j) (h2 : j + n ≤ dn) (h8 : j % 8 = 0) (h3 : 0 < n ∨ j = 0) : chk sv pid off' lf pr o' n = 0 := by
  obtain ⟨hN, h40, hok, hll⟩ := chk0 h
  have e1 := hl_bd o.length
  have e2 : hl o'.length ≤ hl o.length := by unfold hl; omega
  have e3 : 20 ≤ hl o.length := by unfold hl; omega
  unfold Nums at hN
  have hN' : Nums sv pid off' lf pr := by unfold Nums; omega
  unfold chk
  rw [if_pos hN', if_neg (by omega), if_neg (by rw [okO_of ho]; simp), if_neg (by omega)]
end Go.Proofs.Ytngaolagifgfjaa.ip
