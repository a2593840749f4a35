/-
  A script's steps as an argument: a slice of structs of numbers and rows of bytes. Conditions: none.
-/
import Derived.Test.YtodcjokafjdhdaaArg
namespace Go.Proofs.Ytodcjokafjdhdaa
set_option linter.unusedVariables false
set_option linter.unusedSimpArgs false
open Go.ChangeShapes Go.WideShapes Go.ChangeAt Go.RowKit Go.IntWalk Go.Lib Go.Deep
/-- len steps lie at A. -/
structure OplIg (w : World) (A : Option Addr) (len : Nat) (V0 : Nat → Int) (V1 : Nat → Int) (V2 : Nat → Int) (V3 : Nat → Int) (V4 : Nat → Int) (V5 : Nat → Int) (V6 : Nat → Int)  : Prop where
  cells : 0 < len → ∃ b off, A = some ⟨b, off, none⟩ ∧ b < w.heap.size ∧ ∀ i, i < len → w.cell? ⟨b, off + i * 7, none⟩ = some (.int .i64 (V0 i)) ∧ w.cell? ⟨b, off + i * 7 + 1, none⟩ = some (.int .u32 (V1 i)) ∧ w.cell? ⟨b, off + i * 7 + 2, none⟩ = some (.int .i64 (V2 i)) ∧ w.cell? ⟨b, off + i * 7 + 3, none⟩ = some (.int .i64 (V3 i)) ∧ w.cell? ⟨b, off + i * 7 + 4, none⟩ = some (.int .u32 (V4 i)) ∧ w.cell? ⟨b, off + i * 7 + 5, none⟩ = some (.int .i64 (V5 i)) ∧ w.cell? ⟨b, off + i * 7 + 6, none⟩ = some (.int .i64 (V6 i))
  rd : ∀ i, i < len → (Lit.int .i64 (V0 i)).wf = true ∧ (Lit.int .u32 (V1 i)).wf = true ∧ (Lit.int .i64 (V2 i)).wf = true ∧ (Lit.int .i64 (V3 i)).wf = true ∧ (Lit.int .u32 (V4 i)).wf = true ∧ (Lit.int .i64 (V5 i)).wf = true ∧ (Lit.int .i64 (V6 i)).wf = true
theorem OplIg.only {S : List Nat} {w w' : World} {A : Option Addr} {len : Nat} {V0 : Nat → Int} {V1 : Nat → Int} {V2 : Nat → Int} {V3 : Nat → Int} {V4 : Nat → Int} {V5 : Nat → Int} {V6 : Nat → Int}  (h : OplIg w A len V0 V1 V2 V3 V4 V5 V6) (o : Only S w w') (hA : ∀ b off, A = some ⟨b, off, none⟩ → b ∉ S) (hP : ∀ k, k ∈ S → w.heap.size ≤ k) : OplIg w' A len V0 V1 V2 V3 V4 V5 V6 :=
  ⟨fun h0 => by
    obtain ⟨b, off, e, hb, hc⟩ := h.cells h0
    have hbS : b ∉ S := fun hm => by have := hP b hm; omega
    refine ⟨b, off, e, Nat.lt_of_lt_of_le hb o.size, fun i hi => ?_⟩
    obtain ⟨h0, h1, h2, h3, h4, h5, h6⟩ := hc i hi
    exact ⟨(o.cell (p := ⟨b, _, none⟩) hb hbS).trans h0, (o.cell (p := ⟨b, _, none⟩) hb hbS).trans h1, (o.cell (p := ⟨b, _, none⟩) hb hbS).trans h2, (o.cell (p := ⟨b, _, none⟩) hb hbS).trans h3, (o.cell (p := ⟨b, _, none⟩) hb hbS).trans h4, (o.cell (p := ⟨b, _, none⟩) hb hbS).trans h5, (o.cell (p := ⟨b, _, none⟩) hb hbS).trans h6⟩,
   fun i hi => by
    obtain ⟨k0, k1, k2, k3, k4, k5, k6⟩ := h.rd i hi
    exact ⟨k0, k1, k2, k3, k4, k5, k6⟩⟩
theorem OplIg.only_nil {w w' : World} {A : Option Addr} {len : Nat} {V0 : Nat → Int} {V1 : Nat → Int} {V2 : Nat → Int} {V3 : Nat → Int} {V4 : Nat → Int} {V5 : Nat → Int} {V6 : Nat → Int}  (h : OplIg w A len V0 V1 V2 V3 V4 V5 V6) (o : Only [] w w') : OplIg w' A len V0 V1 V2 V3 V4 V5 V6 := h.only o (by simp) (by simp)
theorem OplIg_of {w : World} {bytes bb : Nat} {A : Option Addr} {len cap : Nat} (hbb : bb = 1) (h : CK.holds w (.slice [.int .i64, .int .u32, .int .i64, .int .i64, .int .u32, .int .i64, .int .i64] bytes) (.slice A len cap)) :
    ∃ V0 V1 V2 V3 V4 V5 V6, OplIg w A len V0 V1 V2 V3 V4 V5 V6 ∧ len ≤ cap ∧ cap * bytes ≤ 140737488351232 := by
  unfold CK.holds at h
  obtain ⟨A', len', cap', e, hl, hm, hb, hn, hi⟩ := h
  injection e with e1 e2 e3
  subst e1 e2 e3
  have each : ∀ i, ∃ t : Int × Int × Int × Int × Int × Int × Int, i < cap → ∃ a, A = some a ∧ w.cell? (a.add (i * 7)) = some (.int .i64 t.1) ∧ w.cell? (a.add (i * 7 + 1)) = some (.int .u32 t.2.1) ∧ w.cell? (a.add (i * 7 + 2)) = some (.int .i64 t.2.2.1) ∧ w.cell? (a.add (i * 7 + 3)) = some (.int .i64 t.2.2.2.1) ∧ w.cell? (a.add (i * 7 + 4)) = some (.int .u32 t.2.2.2.2.1) ∧ w.cell? (a.add (i * 7 + 5)) = some (.int .i64 t.2.2.2.2.2.1) ∧ w.cell? (a.add (i * 7 + 6)) = some (.int .i64 t.2.2.2.2.2.2) ∧ (Lit.int .i64 t.1).wf = true ∧ (Lit.int .u32 t.2.1).wf = true ∧ (Lit.int .i64 t.2.2.1).wf = true ∧ (Lit.int .i64 t.2.2.2.1).wf = true ∧ (Lit.int .u32 t.2.2.2.2.1).wf = true ∧ (Lit.int .i64 t.2.2.2.2.2.1).wf = true ∧ (Lit.int .i64 t.2.2.2.2.2.2).wf = true := by
    intro i
    by_cases hic : i < cap
    · obtain ⟨a, cs, ea, hcl, hc, hall⟩ := hi i hic
      obtain ⟨u0, r0, rfl, g0, hall⟩ := CK.all_cons hall
      obtain ⟨u1, r1, rfl, g1, hall⟩ := CK.all_cons hall
      obtain ⟨u2, r2, rfl, g2, hall⟩ := CK.all_cons hall
      obtain ⟨u3, r3, rfl, g3, hall⟩ := CK.all_cons hall
      obtain ⟨u4, r4, rfl, g4, hall⟩ := CK.all_cons hall
      obtain ⟨u5, r5, rfl, g5, hall⟩ := CK.all_cons hall
      obtain ⟨u6, r6, rfl, g6, hall⟩ := CK.all_cons hall
      obtain ⟨k0, rfl, hk0⟩ := CK.int_of g0
      obtain ⟨k1, rfl, hk1⟩ := CK.int_of g1
      obtain ⟨k2, rfl, hk2⟩ := CK.int_of g2
      obtain ⟨k3, rfl, hk3⟩ := CK.int_of g3
      obtain ⟨k4, rfl, hk4⟩ := CK.int_of g4
      obtain ⟨k5, rfl, hk5⟩ := CK.int_of g5
      obtain ⟨k6, rfl, hk6⟩ := CK.int_of g6
      subst hbb
      exact ⟨(k0, k1, k2, k3, k4, k5, k6), fun _ => ⟨a, ea, by simpa using hc 0 (by simp), by simpa using hc 1 (by simp), by simpa using hc 2 (by simp), by simpa using hc 3 (by simp), by simpa using hc 4 (by simp), by simpa using hc 5 (by simp), by simpa using hc 6 (by simp), hk0, hk1, hk2, hk3, hk4, hk5, hk6⟩⟩
    · exact ⟨(0, 0, 0, 0, 0, 0, 0), fun h => absurd h hic⟩
  have hV := fun i => Classical.choose_spec (each i)
  refine ⟨fun i => (Classical.choose (each i)).1, fun i => (Classical.choose (each i)).2.1, fun i => (Classical.choose (each i)).2.2.1, fun i => (Classical.choose (each i)).2.2.2.1, fun i => (Classical.choose (each i)).2.2.2.2.1, fun i => (Classical.choose (each i)).2.2.2.2.2.1, fun i => (Classical.choose (each i)).2.2.2.2.2.2, ⟨fun h0 => ?_, fun i hi' => ?_⟩, hl, hb⟩
  · obtain ⟨a, ea, h1, _⟩ := hV 0 (by omega)
    obtain ⟨b, off, spot⟩ := a
    have hsp : spot = none := by
      have := World.cell?_spot h1
      simpa [Addr.add] using this
    subst hsp
    rw [addr_plus] at h1
    refine ⟨b, off, ea, block_lt_of_cell h1, fun i hi' => ?_⟩
    obtain ⟨a', ea', h0, h1, h2, h3, h4, h5, h6, _⟩ := hV i (by omega)
    rw [ea] at ea'
    injection ea' with ea'
    subst ea'
    rw [addr_plus] at h0 h1 h2 h3 h4 h5 h6
    exact ⟨h0, by rw [Nat.add_assoc]; exact h1, by rw [Nat.add_assoc]; exact h2, by rw [Nat.add_assoc]; exact h3, by rw [Nat.add_assoc]; exact h4, by rw [Nat.add_assoc]; exact h5, by rw [Nat.add_assoc]; exact h6⟩
  · obtain ⟨a', ea', _, _, _, _, _, _, _, hrest⟩ := hV i (by omega)
    exact hrest
end Go.Proofs.Ytodcjokafjdhdaa
