/-
  A script's steps as an argument: a slice of structs of numbers and rows of bytes. Conditions: none.
-/
import Derived.Test.YtnhakcgkhhficaaArg
namespace Go.Proofs.Ytnhakcgkhhficaa
set_option linter.unusedVariables false
set_option linter.unusedSimpArgs false
open Go.ChangeShapes Go.WideShapes Go.ChangeAt Go.RowKit Go.IntWalk Go.Lib Go.Deep
/-- len steps lie at A. -/
structure OplU (w : World) (A : Option Addr) (len : Nat) (V0 : Nat → Int) (V1 : Nat → Int) (V2 : Nat → Int) (V3 : Nat → Int) (V4 : Nat → Int) (V5 : Nat → Int) (V6 : Nat → Int) (V7 : Nat → Int) (V8 : Nat → Int) (RA9 : Nat → Option Addr) (RN9 RC9 : Nat → Nat) (P9 : Nat → List Int) : Prop where
  cells : 0 < len → ∃ b off, A = some ⟨b, off, none⟩ ∧ b < w.heap.size ∧ ∀ i, i < len → w.cell? ⟨b, off + i * 10, none⟩ = some (.int .i64 (V0 i)) ∧ w.cell? ⟨b, off + i * 10 + 1, none⟩ = some (.int .i64 (V1 i)) ∧ w.cell? ⟨b, off + i * 10 + 2, none⟩ = some (.int .i64 (V2 i)) ∧ w.cell? ⟨b, off + i * 10 + 3, none⟩ = some (.int .i64 (V3 i)) ∧ w.cell? ⟨b, off + i * 10 + 4, none⟩ = some (.int .u32 (V4 i)) ∧ w.cell? ⟨b, off + i * 10 + 5, none⟩ = some (.int .u32 (V5 i)) ∧ w.cell? ⟨b, off + i * 10 + 6, none⟩ = some (.int .i64 (V6 i)) ∧ w.cell? ⟨b, off + i * 10 + 7, none⟩ = some (.int .u32 (V7 i)) ∧ w.cell? ⟨b, off + i * 10 + 8, none⟩ = some (.int .i64 (V8 i)) ∧ w.cell? ⟨b, off + i * 10 + 9, none⟩ = some (.slice (RA9 i) (RN9 i) (RC9 i))
  rd : ∀ i, i < len → (Rd .u8 w (RA9 i) (RN9 i) (P9 i) ∧ (RA9 i = none → RC9 i = 0) ∧ RN9 i ≤ 140737488351232 ∧ RN9 i ≤ RC9 i) ∧ (Lit.int .i64 (V0 i)).wf = true ∧ (Lit.int .i64 (V1 i)).wf = true ∧ (Lit.int .i64 (V2 i)).wf = true ∧ (Lit.int .i64 (V3 i)).wf = true ∧ (Lit.int .u32 (V4 i)).wf = true ∧ (Lit.int .u32 (V5 i)).wf = true ∧ (Lit.int .i64 (V6 i)).wf = true ∧ (Lit.int .u32 (V7 i)).wf = true ∧ (Lit.int .i64 (V8 i)).wf = true
theorem OplU.only {S : List Nat} {w w' : World} {A : Option Addr} {len : Nat} {V0 : Nat → Int} {V1 : Nat → Int} {V2 : Nat → Int} {V3 : Nat → Int} {V4 : Nat → Int} {V5 : Nat → Int} {V6 : Nat → Int} {V7 : Nat → Int} {V8 : Nat → Int} {RA9 : Nat → Option Addr} {RN9 RC9 : Nat → Nat} {P9 : Nat → List Int} (h : OplU w A len V0 V1 V2 V3 V4 V5 V6 V7 V8 RA9 RN9 RC9 P9) (o : Only S w w') (hA : ∀ b off, A = some ⟨b, off, none⟩ → b ∉ S) (hP : ∀ k, k ∈ S → w.heap.size ≤ k) : OplU w' A len V0 V1 V2 V3 V4 V5 V6 V7 V8 RA9 RN9 RC9 P9 :=
  ⟨fun h0 => by
    obtain ⟨b, off, e, hb, hc⟩ := h.cells h0
    have hbS : b ∉ S := fun hm => by have := hP b hm; omega
    refine ⟨b, off, e, Nat.lt_of_lt_of_le hb o.size, fun i hi => ?_⟩
    obtain ⟨h0, h1, h2, h3, h4, h5, h6, h7, h8, h9⟩ := hc i hi
    exact ⟨(o.cell (p := ⟨b, _, none⟩) hb hbS).trans h0, (o.cell (p := ⟨b, _, none⟩) hb hbS).trans h1, (o.cell (p := ⟨b, _, none⟩) hb hbS).trans h2, (o.cell (p := ⟨b, _, none⟩) hb hbS).trans h3, (o.cell (p := ⟨b, _, none⟩) hb hbS).trans h4, (o.cell (p := ⟨b, _, none⟩) hb hbS).trans h5, (o.cell (p := ⟨b, _, none⟩) hb hbS).trans h6, (o.cell (p := ⟨b, _, none⟩) hb hbS).trans h7, (o.cell (p := ⟨b, _, none⟩) hb hbS).trans h8, (o.cell (p := ⟨b, _, none⟩) hb hbS).trans h9⟩,
   fun i hi => by
    obtain ⟨⟨r9, s9⟩, k0, k1, k2, k3, k4, k5, k6, k7, k8⟩ := h.rd i hi
    exact ⟨⟨r9.only o (fun b off _ hb hm => by have := hP b hm; omega), s9⟩, k0, k1, k2, k3, k4, k5, k6, k7, k8⟩⟩
theorem OplU.only_nil {w w' : World} {A : Option Addr} {len : Nat} {V0 : Nat → Int} {V1 : Nat → Int} {V2 : Nat → Int} {V3 : Nat → Int} {V4 : Nat → Int} {V5 : Nat → Int} {V6 : Nat → Int} {V7 : Nat → Int} {V8 : Nat → Int} {RA9 : Nat → Option Addr} {RN9 RC9 : Nat → Nat} {P9 : Nat → List Int} (h : OplU w A len V0 V1 V2 V3 V4 V5 V6 V7 V8 RA9 RN9 RC9 P9) (o : Only [] w w') : OplU w' A len V0 V1 V2 V3 V4 V5 V6 V7 V8 RA9 RN9 RC9 P9 := h.only o (by simp) (by simp)
theorem OplU_of {w : World} {bytes bb : Nat} {A : Option Addr} {len cap : Nat} (hbb : bb = 1) (h : CK.holds w (.slice [.int .i64, .int .i64, .int .i64, .int .i64, .int .u32, .int .u32, .int .i64, .int .u32, .int .i64, .slice [.int .u8] bb] bytes) (.slice A len cap)) :
    ∃ V0 V1 V2 V3 V4 V5 V6 V7 V8 RA9 RN9 RC9 P9, OplU w A len V0 V1 V2 V3 V4 V5 V6 V7 V8 RA9 RN9 RC9 P9 ∧ len ≤ cap ∧ cap * bytes ≤ 140737488351232 := by
  unfold CK.holds at h
  obtain ⟨A', len', cap', e, hl, hm, hb, hn, hi⟩ := h
  injection e with e1 e2 e3
  subst e1 e2 e3
  have each : ∀ i, ∃ t : Int × Int × Int × Int × Int × Int × Int × Int × Int × (Option Addr × Nat × Nat × List Int), i < cap → ∃ a, A = some a ∧ w.cell? (a.add (i * 10)) = some (.int .i64 t.1) ∧ w.cell? (a.add (i * 10 + 1)) = some (.int .i64 t.2.1) ∧ w.cell? (a.add (i * 10 + 2)) = some (.int .i64 t.2.2.1) ∧ w.cell? (a.add (i * 10 + 3)) = some (.int .i64 t.2.2.2.1) ∧ w.cell? (a.add (i * 10 + 4)) = some (.int .u32 t.2.2.2.2.1) ∧ w.cell? (a.add (i * 10 + 5)) = some (.int .u32 t.2.2.2.2.2.1) ∧ w.cell? (a.add (i * 10 + 6)) = some (.int .i64 t.2.2.2.2.2.2.1) ∧ w.cell? (a.add (i * 10 + 7)) = some (.int .u32 t.2.2.2.2.2.2.2.1) ∧ w.cell? (a.add (i * 10 + 8)) = some (.int .i64 t.2.2.2.2.2.2.2.2.1) ∧ w.cell? (a.add (i * 10 + 9)) = some (.slice t.2.2.2.2.2.2.2.2.2.1 t.2.2.2.2.2.2.2.2.2.2.1 t.2.2.2.2.2.2.2.2.2.2.2.1) ∧ (Rd .u8 w t.2.2.2.2.2.2.2.2.2.1 t.2.2.2.2.2.2.2.2.2.2.1 t.2.2.2.2.2.2.2.2.2.2.2.2 ∧ (t.2.2.2.2.2.2.2.2.2.1 = none → t.2.2.2.2.2.2.2.2.2.2.2.1 = 0) ∧ t.2.2.2.2.2.2.2.2.2.2.1 ≤ 140737488351232 ∧ t.2.2.2.2.2.2.2.2.2.2.1 ≤ t.2.2.2.2.2.2.2.2.2.2.2.1) ∧ (Lit.int .i64 t.1).wf = true ∧ (Lit.int .i64 t.2.1).wf = true ∧ (Lit.int .i64 t.2.2.1).wf = true ∧ (Lit.int .i64 t.2.2.2.1).wf = true ∧ (Lit.int .u32 t.2.2.2.2.1).wf = true ∧ (Lit.int .u32 t.2.2.2.2.2.1).wf = true ∧ (Lit.int .i64 t.2.2.2.2.2.2.1).wf = true ∧ (Lit.int .u32 t.2.2.2.2.2.2.2.1).wf = true ∧ (Lit.int .i64 t.2.2.2.2.2.2.2.2.1).wf = true := by
    intro i
    by_cases hic : i < cap
    · obtain ⟨a, cs, ea, hcl, hc, hall⟩ := hi i hic
      obtain ⟨u0, r0, rfl, g0, hall⟩ := CK.all_cons hall
      obtain ⟨u1, r1, rfl, g1, hall⟩ := CK.all_cons hall
      obtain ⟨u2, r2, rfl, g2, hall⟩ := CK.all_cons hall
      obtain ⟨u3, r3, rfl, g3, hall⟩ := CK.all_cons hall
      obtain ⟨u4, r4, rfl, g4, hall⟩ := CK.all_cons hall
      obtain ⟨u5, r5, rfl, g5, hall⟩ := CK.all_cons hall
      obtain ⟨u6, r6, rfl, g6, hall⟩ := CK.all_cons hall
      obtain ⟨u7, r7, rfl, g7, hall⟩ := CK.all_cons hall
      obtain ⟨u8, r8, rfl, g8, hall⟩ := CK.all_cons hall
      obtain ⟨u9, r9, rfl, g9, hall⟩ := CK.all_cons hall
      obtain ⟨k0, rfl, hk0⟩ := CK.int_of g0
      obtain ⟨k1, rfl, hk1⟩ := CK.int_of g1
      obtain ⟨k2, rfl, hk2⟩ := CK.int_of g2
      obtain ⟨k3, rfl, hk3⟩ := CK.int_of g3
      obtain ⟨k4, rfl, hk4⟩ := CK.int_of g4
      obtain ⟨k5, rfl, hk5⟩ := CK.int_of g5
      obtain ⟨k6, rfl, hk6⟩ := CK.int_of g6
      obtain ⟨k7, rfl, hk7⟩ := CK.int_of g7
      obtain ⟨k8, rfl, hk8⟩ := CK.int_of g8
      obtain ⟨A9, n9, c9, zs9, rfl, hrow9, hb9⟩ := CK.ints g9
      have hr9 := Rd.of_row hrow9
      have hle9 := hrow9.len_le
      subst hbb
      exact ⟨(k0, k1, k2, k3, k4, k5, k6, k7, k8, (A9, n9, c9, zs9.take n9)), fun _ => ⟨a, ea, by simpa using hc 0 (by simp), by simpa using hc 1 (by simp), by simpa using hc 2 (by simp), by simpa using hc 3 (by simp), by simpa using hc 4 (by simp), by simpa using hc 5 (by simp), by simpa using hc 6 (by simp), by simpa using hc 7 (by simp), by simpa using hc 8 (by simp), by simpa using hc 9 (by simp), ⟨hr9, hrow9.none_cap, (by have := hle9.1; show n9 ≤ 140737488351232; omega), hle9.1⟩, hk0, hk1, hk2, hk3, hk4, hk5, hk6, hk7, hk8⟩⟩
    · exact ⟨(0, 0, 0, 0, 0, 0, 0, 0, 0, (none, 0, 0, [])), fun h => absurd h hic⟩
  have hV := fun i => Classical.choose_spec (each i)
  refine ⟨fun i => (Classical.choose (each i)).1, fun i => (Classical.choose (each i)).2.1, fun i => (Classical.choose (each i)).2.2.1, fun i => (Classical.choose (each i)).2.2.2.1, fun i => (Classical.choose (each i)).2.2.2.2.1, fun i => (Classical.choose (each i)).2.2.2.2.2.1, fun i => (Classical.choose (each i)).2.2.2.2.2.2.1, fun i => (Classical.choose (each i)).2.2.2.2.2.2.2.1, fun i => (Classical.choose (each i)).2.2.2.2.2.2.2.2.1, fun i => (Classical.choose (each i)).2.2.2.2.2.2.2.2.2.1, fun i => (Classical.choose (each i)).2.2.2.2.2.2.2.2.2.2.1, fun i => (Classical.choose (each i)).2.2.2.2.2.2.2.2.2.2.2.1, fun i => (Classical.choose (each i)).2.2.2.2.2.2.2.2.2.2.2.2, ⟨fun h0 => ?_, fun i hi' => ?_⟩, hl, hb⟩
  · obtain ⟨a, ea, h1, _⟩ := hV 0 (by omega)
    obtain ⟨b, off, spot⟩ := a
    have hsp : spot = none := by
      have := World.cell?_spot h1
      simpa [Addr.add] using this
    subst hsp
    rw [addr_plus] at h1
    refine ⟨b, off, ea, block_lt_of_cell h1, fun i hi' => ?_⟩
    obtain ⟨a', ea', h0, h1, h2, h3, h4, h5, h6, h7, h8, h9, _⟩ := hV i (by omega)
    rw [ea] at ea'
    injection ea' with ea'
    subst ea'
    rw [addr_plus] at h0 h1 h2 h3 h4 h5 h6 h7 h8 h9
    exact ⟨h0, by rw [Nat.add_assoc]; exact h1, by rw [Nat.add_assoc]; exact h2, by rw [Nat.add_assoc]; exact h3, by rw [Nat.add_assoc]; exact h4, by rw [Nat.add_assoc]; exact h5, by rw [Nat.add_assoc]; exact h6, by rw [Nat.add_assoc]; exact h7, by rw [Nat.add_assoc]; exact h8, by rw [Nat.add_assoc]; exact h9⟩
  · obtain ⟨a', ea', _, _, _, _, _, _, _, _, _, _, hrest⟩ := hV i (by omega)
    exact hrest
end Go.Proofs.Ytnhakcgkhhficaa
