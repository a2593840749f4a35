/-
  A script's steps as an argument: a kind, a number and a row of bytes each. Conditions: none but those typed.
-/
import Derived.Test.YtiphkkcfpkkkeaaArg
namespace Go.Proofs.Ytiphkkcfpkkkeaa
set_option linter.unusedVariables false
set_option linter.unusedSimpArgs false
open Go.ChangeShapes Go.WideShapes Go.ChangeAt Go.RowKit Go.IntWalk Go.Lib Go.Deep
/-- len steps lie at A: their kinds K, their numbers V, their bytes P, where slices (RA, RN, RC) lead. -/
structure Steps3 (w : World) (A : Option Addr) (len : Nat) (K V : Nat → Int) (RA : Nat → Option Addr) (RN RC : Nat → Nat) (P : Nat → List Int) : Prop where
  cells : 0 < len → ∃ b off, A = some ⟨b, off, none⟩ ∧ b < w.heap.size ∧ ∀ i, i < len → w.cell? ⟨b, off + i * 3, none⟩ = some (.int .i64 (K i)) ∧ w.cell? ⟨b, off + i * 3 + 1, none⟩ = some (.int .i64 (V i)) ∧ w.cell? ⟨b, off + i * 3 + 2, none⟩ = some (.slice (RA i) (RN i) (RC i))
  rd : ∀ i, i < len → Rd .u8 w (RA i) (RN i) (P i) ∧ (RA i = none → RC i = 0) ∧ RN i ≤ 140737488351232 ∧ RN i ≤ RC i ∧ (Lit.int .i64 (V i)).wf = true ∧ (Lit.int .i64 (K i)).wf = true
theorem Steps3.only_nil {w w' : World} {A : Option Addr} {len : Nat} {K V : Nat → Int} {RA : Nat → Option Addr} {RN RC : Nat → Nat} {P : Nat → List Int} (h : Steps3 w A len K V RA RN RC P) (o : Only [] w w') : Steps3 w' A len K V RA RN RC P :=
  ⟨fun h0 => by
    obtain ⟨b, off, e, hb, hc⟩ := h.cells h0
    refine ⟨b, off, e, Nat.lt_of_lt_of_le hb o.size, fun i hi => ?_⟩
    obtain ⟨h1, h2, h3⟩ := hc i hi
    exact ⟨(o.cell (p := ⟨b, _, none⟩) hb (by simp)).trans h1, (o.cell (p := ⟨b, _, none⟩) hb (by simp)).trans h2, (o.cell (p := ⟨b, _, none⟩) hb (by simp)).trans h3⟩,
   fun i hi => by
    obtain ⟨h1, h2⟩ := h.rd i hi
    exact ⟨h1.only_nil o, h2⟩⟩
theorem steps3_of {w : World} {bytes bb : Nat} {A : Option Addr} {len cap : Nat} (hbb : bb = 1) (h : CK.holds w (.slice [.int .i64, .int .i64, .slice [.int .u8] bb] bytes) (.slice A len cap)) :
    ∃ K V RA RN RC P, Steps3 w A len K V RA RN RC P ∧ len ≤ cap ∧ cap * bytes ≤ 140737488351232 := by
  unfold CK.holds at h
  obtain ⟨A', len', cap', e, hl, hm, hb, hn, hi⟩ := h
  injection e with e1 e2 e3
  subst e1 e2 e3
  have each : ∀ i, ∃ t : Int × Int × Option Addr × Nat × Nat × List Int, i < cap → ∃ a, A = some a ∧ w.cell? (a.add (i * 3)) = some (.int .i64 t.1) ∧ w.cell? (a.add (i * 3 + 1)) = some (.int .i64 t.2.1) ∧ w.cell? (a.add (i * 3 + 2)) = some (.slice t.2.2.1 t.2.2.2.1 t.2.2.2.2.1) ∧
      Rd .u8 w t.2.2.1 t.2.2.2.1 t.2.2.2.2.2 ∧ (t.2.2.1 = none → t.2.2.2.2.1 = 0) ∧ t.2.2.2.1 ≤ 140737488351232 ∧ t.2.2.2.1 ≤ t.2.2.2.2.1 ∧ (Lit.int .i64 t.2.1).wf = true ∧ (Lit.int .i64 t.1).wf = true := by
    intro i
    by_cases hic : i < cap
    · obtain ⟨a, cs, ea, hcl, hc, hall⟩ := hi i hic
      obtain ⟨u0, r0, rfl, g0, hall⟩ := CK.all_cons hall
      obtain ⟨u1, r1, rfl, g1, hall⟩ := CK.all_cons hall
      obtain ⟨u2, r2, rfl, g2, hall⟩ := CK.all_cons hall
      obtain ⟨k, rfl, hk⟩ := CK.int_of g0
      obtain ⟨v, rfl, hv⟩ := CK.int_of g1
      obtain ⟨A2, n2, c2, zs, rfl, hrow, hb2⟩ := CK.ints g2
      have hr := Rd.of_row hrow
      have hle := hrow.len_le
      subst hbb
      refine ⟨(k, v, A2, n2, c2, zs.take n2), fun _ => ⟨a, ea, by simpa using hc 0 (by simp), by simpa using hc 1 (by simp), by simpa using hc 2 (by simp), hr, hrow.none_cap, (by have := hle.1; show n2 ≤ 140737488351232; omega), hle.1, hv, hk⟩⟩
    · exact ⟨(0, 0, none, 0, 0, []), fun h => absurd h hic⟩
  have hV := fun i => Classical.choose_spec (each i)
  refine ⟨fun i => (Classical.choose (each i)).1, fun i => (Classical.choose (each i)).2.1, fun i => (Classical.choose (each i)).2.2.1, fun i => (Classical.choose (each i)).2.2.2.1, fun i => (Classical.choose (each i)).2.2.2.2.1, fun i => (Classical.choose (each i)).2.2.2.2.2, ⟨fun h0 => ?_, fun i hi' => ?_⟩, hl, hb⟩
  · obtain ⟨a, ea, h1, _⟩ := hV 0 (by omega)
    obtain ⟨b, off, spot⟩ := a
    have hsp : spot = none := by
      have := World.cell?_spot h1
      simpa [Addr.add] using this
    subst hsp
    rw [addr_plus] at h1
    refine ⟨b, off, ea, block_lt_of_cell h1, fun i hi' => ?_⟩
    obtain ⟨a', ea', h1, h2, h3, _⟩ := hV i (by omega)
    rw [ea] at ea'
    injection ea' with ea'
    subst ea'
    rw [addr_plus] at h1 h2 h3
    exact ⟨h1, by rw [Nat.add_assoc]; exact h2, by rw [Nat.add_assoc]; exact h3⟩
  · obtain ⟨a', ea', _, _, _, h4⟩ := hV i (by omega)
    exact h4
end Go.Proofs.Ytiphkkcfpkkkeaa
