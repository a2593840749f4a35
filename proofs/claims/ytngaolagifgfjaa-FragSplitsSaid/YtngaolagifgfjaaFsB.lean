/-
  Chapter 7 (frag): what Split gives, exactly, as a relation of packets' contents; packets whose rows are a call's own. Conditions: none but those typed.
-/
import Derived.Test.YtngaolagifgfjaaFsA
import Derived.Test.YtngaolagifgfjaaFrC
namespace Go.Proofs.Ytngaolagifgfjaa.ip
set_option linter.unusedVariables false
set_option linter.unusedSimpArgs false
open Go.ChangeShapes Go.WideShapes Go.ChangeAt Go.RowKit Go.IntWalk Go.Lib
theorem own_keepK {base B : Nat} {w w' : World} {v : Value} {l : List Int} (h : Own .u8 5 w B v l) (k : KK base w w') : Own .u8 5 w' B v l := by
  refine ⟨⟨h.1.1, ?_⟩, h.2⟩
  rcases h.1.2 with h | ⟨b, cap, cur, hv1, hb1, hh, r⟩
  · exact .inl h
  · exact .inr ⟨b, cap, cur, hv1, hb1, k.1 _ _ hh ⟨_, _, rfl⟩, r⟩
/-- All packets' rows are the call's own. -/
def PDo (base : Nat) (w : World) (L : List Pk) : Prop := ∀ p ∈ L, Own .u8 5 w base (.slice p.oA p.o.length p.oc) p.o ∧ Own .u8 5 w base (.slice p.dA p.d.length p.dc) p.d
theorem PDo.keep {base : Nat} {w w' : World} {L : List Pk} (h : PDo base w L) (k : KK base w w') : PDo base w' L := fun p hp => ⟨own_keepK (h p hp).1 k, own_keepK (h p hp).2 k⟩
theorem PDo.add {base : Nat} {w : World} {L : List Pk} {p : Pk} (h : PDo base w L) (h1 : Own .u8 5 w base (.slice p.oA p.o.length p.oc) p.o) (h2 : Own .u8 5 w base (.slice p.dA p.d.length p.dc) p.d) : PDo base w (L ++ [p]) := fun x hx => by
  rcases List.mem_append.1 hx with h3 | h3
  · exact h x h3
  · rw [show x = p from by simpa using h3]; exact ⟨h1, h2⟩
theorem PDo.ds {base : Nat} {w : World} {L : List Pk} (h : PDo base w L) : PDs base w L := fun p hp => ⟨DK.of_own (h p hp).1, DK.of_own (h p hp).2⟩
/-- The blocks of packets' rows. -/
def blk : Option Addr → List Nat
  | some a => [a.block]
  | none => []
def bks (M : List Pk) : List Nat := M.flatMap fun p => blk p.oA ++ blk p.dA
theorem blk_own {A : Option Addr} {n c i : Nat} (h : i ∈ blk A) : (Value.slice A n c).ownBlock = some i := by
  cases A with
  | none => cases h
  | some a => rw [show i = a.block from by simpa [blk] using h]; rfl
theorem blk_ge {w : World} {base B n c : Nat} {A : Option Addr} {l : List Int} (h : Own .u8 5 w base (.slice A n c) l) (hB : B ≤ base) : ∀ i ∈ blk A, B ≤ i := fun i hi => Nat.le_trans hB (h.lt i (blk_own hi)).1
theorem blk_ap {A1 A2 : Option Addr} {n1 c1 n2 c2 : Nat} (h : ∀ i, (Value.slice A1 n1 c1).ownBlock = some i → ∀ j, (Value.slice A2 n2 c2).ownBlock = some j → i ≠ j) : ∀ i ∈ blk A1, ∀ j ∈ blk A2, i ≠ j := fun i hi j hj => h i (blk_own hi) j (blk_own hj)
theorem blk_nodup (A : Option Addr) : (blk A).Nodup := by cases A <;> simp [blk]
/-- All packets' rows are the call's own, each in a block of its own. -/
def PDq (base : Nat) (w : World) (L : List Pk) : Prop := PDo base w L ∧ (bks L).Nodup
theorem PDq.keep {base : Nat} {w w' : World} {L : List Pk} (h : PDq base w L) (k : KK base w w') : PDq base w' L := ⟨h.1.keep k, h.2⟩
theorem PDq.nil (base : Nat) (w : World) : PDq base w [] := ⟨(fun p hp => by cases hp), by simp [bks]⟩
theorem PDo.bks_lt {base : Nat} {w : World} {L : List Pk} (h : PDo base w L) : ∀ i ∈ bks L, i < w.heap.size := fun i hi => by
  obtain ⟨p, hp, h1⟩ := List.mem_flatMap.1 hi
  rcases List.mem_append.1 h1 with h2 | h2
  · exact ((h p hp).1.lt i (blk_own h2)).2
  · exact ((h p hp).2.lt i (blk_own h2)).2
theorem PDq.add {base : Nat} {w0 w : World} {L : List Pk} {q : Pk} (h : PDq base w0 L) (k : KK base w0 w) (h1 : Own .u8 5 w base (.slice q.oA q.o.length q.oc) q.o) (h2 : Own .u8 5 w base (.slice q.dA q.d.length q.dc) q.d)
    (g1 : ∀ i ∈ blk q.oA, w0.heap.size ≤ i) (g2 : ∀ i ∈ blk q.dA, w0.heap.size ≤ i) (ap : ∀ i ∈ blk q.oA, ∀ j ∈ blk q.dA, i ≠ j) : PDq base w (L ++ [q]) := by
  refine ⟨(h.1.keep k).add h1 h2, ?_⟩
  have e : bks (L ++ [q]) = bks L ++ (blk q.oA ++ blk q.dA) := by unfold bks; rw [List.flatMap_append]; simp
  rw [e, List.nodup_append, List.nodup_append]
  refine ⟨h.2, ⟨blk_nodup _, blk_nodup _, ap⟩, fun a ha b hb => ?_⟩
  have h3 := h.1.bks_lt a ha
  rcases List.mem_append.1 hb with h4 | h4
  · have := g1 b h4; omega
  · have := g2 b h4; omega
theorem PDq.one {base : Nat} {w : World} {q : Pk} (h1 : Own .u8 5 w base (.slice q.oA q.o.length q.oc) q.o) (h2 : Own .u8 5 w base (.slice q.dA q.d.length q.dc) q.d) (ap : ∀ i ∈ blk q.oA, ∀ j ∈ blk q.dA, i ≠ j) : PDq base w [q] := by
  refine ⟨fun p hp => ?_, ?_⟩
  · rw [show p = q from by simpa using hp]; exact ⟨h1, h2⟩
  · have e : bks [q] = blk q.oA ++ blk q.dA := by unfold bks; simp
    rw [e, List.nodup_append]
    exact ⟨blk_nodup _, blk_nodup _, ap⟩
/-- A packet's contents. -/
def Pk.key (p : Pk) : Pk := ⟨p.sv, p.pid, p.wh, p.mo, p.off, p.lf, p.pr, p.fr, p.to, none, 0, p.o, none, 0, p.d⟩
def opt (q : Pk) (u : List Int) (j : Nat) : List Int := if j = 0 then q.o else u
def pcL (q : Pk) (u : List Int) (j : Nat) : Pk := ⟨q.sv, q.pid, q.wh, q.mo, q.off + j, q.lf, q.pr, q.fr, q.to, none, 0, opt q u j, none, 0, q.d.drop j⟩
def pcM (q : Pk) (u : List Int) (j n : Nat) : Pk := ⟨q.sv, q.pid, q.wh, true, q.off + j, q.lf, q.pr, q.fr, q.to, none, 0, opt q u j, none, 0, (q.d.drop j).take n⟩
/-- The pieces from byte j on. -/
inductive PcR (m : Nat) (q : Pk) (u : List Int) : Nat → List Pk → Prop
  | last (j : Nat) : hl (opt q u j).length + (q.d.length - j) ≤ m → PcR m q u j [pcL q u j]
  | more (j : Nat) (L : List Pk) : ¬ hl (opt q u j).length + (q.d.length - j) ≤ m → PcR m q u (j + (m - hl (opt q u j).length) / 8 * 8) L → PcR m q u j (pcM q u j ((m - hl (opt q u j).length) / 8 * 8) :: L)
theorem PcR.uniq {m : Nat} {q : Pk} {u : List Int} {j : Nat} {L : List Pk} (h : PcR m q u j L) : ∀ {L' : List Pk}, PcR m q u j L' → L = L' := by
  induction h with
  | last j hf => intro L' k; cases k with
    | last => rfl
    | more => exact absurd hf (by assumption)
  | more j L hf _ ih => intro L' k; cases k with
    | last => exact absurd (by assumption) hf
    | more => rw [ih (by assumption)]
def PcP (m : Nat) (q : Pk) (u : List Int) (j : Nat) (M : List Pk) : Prop := ∀ L, PcR m q u j L → PcR m q u 0 (M ++ L)
/-- Split's answer. -/
inductive SpR (m : Int) (q : Pk) : Int → List Pk → Prop
  | arg : (m < 68 ∨ 65535 < m) → SpR m q 1 []
  | chk (e : Int) : ¬ (m < 68 ∨ 65535 < m) → chk q.sv q.pid q.off q.lf q.pr q.o q.d.length = e → e ≠ 0 → SpR m q e []
  | fit : ¬ (m < 68 ∨ 65535 < m) → chk q.sv q.pid q.off q.lf q.pr q.o q.d.length = 0 → hl q.o.length + q.d.length ≤ m.toNat → SpR m q 0 [q.key]
  | wh : ¬ (m < 68 ∨ 65535 < m) → chk q.sv q.pid q.off q.lf q.pr q.o q.d.length = 0 → ¬ hl q.o.length + q.d.length ≤ m.toNat → q.wh = true → SpR m q 5 []
  | pcs (u : List Int) (L : List Pk) : ¬ (m < 68 ∨ 65535 < m) → chk q.sv q.pid q.off q.lf q.pr q.o q.d.length = 0 → ¬ hl q.o.length + q.d.length ≤ m.toNat → q.wh = false → CpR q.o u → PcR m.toNat q u 0 L → SpR m q 0 L
theorem SpR.uniq {m : Int} {q : Pk} {e e' : Int} {L L' : List Pk} (h : SpR m q e L) (k : SpR m q e' L') : e = e' ∧ L = L' := by
  cases h with
  | arg h => cases k with
    | arg => exact ⟨rfl, rfl⟩
    | chk _ g => exact absurd h g
    | fit g => exact absurd h g
    | wh g => exact absurd h g
    | pcs _ _ g => exact absurd h g
  | chk _ h h1 h2 => cases k with
    | arg g => exact absurd g h
    | chk _ g g1 g2 => exact ⟨h1.symm.trans g1, rfl⟩
    | fit g g1 => exact absurd (h1.symm.trans g1) h2
    | wh g g1 => exact absurd (h1.symm.trans g1) h2
    | pcs _ _ g g1 => exact absurd (h1.symm.trans g1) h2
  | fit h h1 h2 => cases k with
    | arg g => exact absurd g h
    | chk _ g g1 g2 => exact absurd (g1.symm.trans h1) g2
    | fit => exact ⟨rfl, rfl⟩
    | wh _ _ g => exact absurd h2 g
    | pcs _ _ _ _ g => exact absurd h2 g
  | wh h h1 h2 h3 => cases k with
    | arg g => exact absurd g h
    | chk _ g g1 g2 => exact absurd (g1.symm.trans h1) g2
    | fit _ _ g => exact absurd g h2
    | wh => exact ⟨rfl, rfl⟩
    | pcs _ _ _ _ _ g => rw [h3] at g; cases g
  | pcs u L h h1 h2 h3 h4 h5 => cases k with
    | arg g => exact absurd g h
    | chk _ g g1 g2 => exact absurd (g1.symm.trans h1) g2
    | fit _ _ g => exact absurd g h2
    | wh _ _ _ g => rw [h3] at g; cases g
    | pcs u' _ _ _ _ _ g4 g5 => have e := h4.uniq g4; subst e; exact ⟨rfl, h5.uniq g5⟩
theorem CpR.ex {l : List Int} {b : Bool} (h : Ofs l b) : b = true → ∃ u, CpR l u := by
  induction h with
  | nil => intro _; exact ⟨_, .nil⟩
  | endg r _ => intro _; exact ⟨_, .z r⟩
  | endb => intro e; cases e
  | one r b _ ih => intro e; obtain ⟨u, hu⟩ := ih e; exact ⟨u, .one r u hu⟩
  | short => intro e; cases e
  | low => intro e; cases e
  | over => intro e; cases e
  | more k n r b h0 h1 h2 h3 _ ih =>
    intro e
    obtain ⟨u, hu⟩ := ih e
    obtain ⟨m, rfl⟩ : ∃ m : Nat, n = (m : Int) := ⟨n.toNat, by omega⟩
    have hu' : CpR (r.drop (m - 2)) u := by simpa using hu
    by_cases h5 : k < 128
    · exact ⟨_, .low k m r u h0 h1 h5 (by omega) hu'⟩
    · exact ⟨_, .hi k m r u h0 h1 (by omega) (by omega) hu'⟩
/-- What the loop knows of the pieces so far. -/
def XInv (m : Nat) (q : Pk) (o2 : List Int) (M : List Pk) : Prop := ∀ u, CpR q.o u → o2 = opt q u (dat M).length ∧ PcP m q u (dat M).length (M.map Pk.key)
theorem XInv.start (m : Nat) (q : Pk) : XInv m q q.o [] := fun u _ => ⟨by simp [dat, opt], fun L h => by simpa [dat] using h⟩
theorem dat_drop {M : List Pk} {d2 d : List Int} (h : dat M ++ d2 = d) : d.drop (dat M).length = d2 := by rw [← h, List.drop_left]
theorem XInv.step {m : Nat} {q0 q : Pk} {o2 d2 u' : List Int} {M : List Pk} {n : Nat} (h : XInv m q0 o2 M) (hd : dat M ++ d2 = q0.d) (hc : CpR q0.o u') (hn : n = (m - hl o2.length) / 8 * 8) (hn0 : 0 < n) (hnf : ¬ hl o2.length + d2.length ≤ m)
    (hq : q.key = ⟨q0.sv, q0.pid, q0.wh, true, q0.off + ((dat M).length : Int), q0.lf, q0.pr, q0.fr, q0.to, none, 0, o2, none, 0, d2.take n⟩) (hql : q.d.length = n) : XInv m q0 u' (M ++ [q]) := fun u hu => by
  obtain ⟨e1, hp⟩ := h u hu
  have e2 := hc.uniq hu
  subst e2
  have hlen : (dat (M ++ [q])).length = (dat M).length + n := by rw [dat_snoc, List.length_append, hql]
  have hdl : q0.d.length - (dat M).length = d2.length := by rw [← hd, List.length_append]; omega
  rw [hlen]
  refine ⟨by unfold opt; rw [if_neg (by omega)], fun L hL => ?_⟩
  rw [List.map_append, List.append_assoc]
  refine hp _ ?_
  have e3 : q.key = pcM q0 u' (dat M).length ((m - hl (opt q0 u' (dat M).length).length) / 8 * 8) := by
    rw [hq]; unfold pcM; rw [dat_drop hd, ← e1, ← hn]
  show PcR m q0 u' _ (q.key :: L)
  rw [e3]
  refine .more _ _ ?_ ?_
  · rw [hdl, ← e1]; exact hnf
  · rw [← e1, ← hn]; exact hL
theorem XInv.last {m : Nat} {q0 q : Pk} {o2 d2 : List Int} {M : List Pk} (h : XInv m q0 o2 M) (hd : dat M ++ d2 = q0.d) (ho : Ofs q0.o true) (hf : hl o2.length + d2.length ≤ m)
    (hq : q.key = ⟨q0.sv, q0.pid, q0.wh, q0.mo, q0.off + ((dat M).length : Int), q0.lf, q0.pr, q0.fr, q0.to, none, 0, o2, none, 0, d2⟩) : ∃ u, CpR q0.o u ∧ PcR m q0 u 0 ((M ++ [q]).map Pk.key) := by
  obtain ⟨u, hu⟩ := CpR.ex ho rfl
  obtain ⟨e1, hp⟩ := h u hu
  refine ⟨u, hu, ?_⟩
  have hdl : q0.d.length - (dat M).length = d2.length := by rw [← hd, List.length_append]; omega
  rw [List.map_append]
  refine hp _ ?_
  have e3 : q.key = pcL q0 u (dat M).length := by rw [hq]; unfold pcL; rw [dat_drop hd, ← e1]
  show PcR m q0 u _ [q.key]
  rw [e3]
  refine .last _ ?_
  rw [hdl, ← e1]; exact hf
def sq (sv pid : Int) (wh mo : Bool) (off lf pr fr to : Int) (o d : List Int) : Pk := ⟨sv, pid, wh, mo, off, lf, pr, fr, to, none, 0, o, none, 0, d⟩
def SplX (m : Int) (q : Pk) (w : World) (x : Ending) (w' : World) : Prop := ∃ (v : Value) (e : Int) (M : List Pk), x = .returned (.tuple #[v, .int .i64 e]) ∧ SpR m q e (M.map Pk.key) ∧ w'.ownsRow w.heap.size 26 11 v M.length (pcs M) ∧ PDq w.heap.size w' M ∧ Only [] w w'
end Go.Proofs.Ytngaolagifgfjaa.ip
