/-
  A script's steps as an argument: a slice of structs of numbers and rows of bytes. Conditions: none.
-/
import Derived.Test.YtfoecnlbiaiibaaArg
namespace Go.Proofs.Ytfoecnlbiaiibaa
set_option linter.unusedVariables false
set_option linter.unusedSimpArgs false
open Go.ChangeShapes Go.WideShapes Go.ChangeAt Go.RowKit Go.IntWalk Go.Lib Go.Deep
/-- len steps lie at A. -/
structure OplM (w : World) (A : Option Addr) (len : Nat) (V0 : Nat → ByteArray) (V1 : Nat → Int) (V2 : Nat → Int) (V3 : Nat → Int) (RA4 : Nat → Option Addr) (RN4 RC4 : Nat → Nat) (P4 : Nat → List Int) : Prop where
  cells : 0 < len → ∃ b off, A = some ⟨b, off, none⟩ ∧ b < w.heap.size ∧ ∀ i, i < len → w.cell? ⟨b, off + i * 5, none⟩ = some (.string (V0 i)) ∧ w.cell? ⟨b, off + i * 5 + 1, none⟩ = some (.int .i64 (V1 i)) ∧ w.cell? ⟨b, off + i * 5 + 2, none⟩ = some (.int .i64 (V2 i)) ∧ w.cell? ⟨b, off + i * 5 + 3, none⟩ = some (.int .i64 (V3 i)) ∧ w.cell? ⟨b, off + i * 5 + 4, none⟩ = some (.slice (RA4 i) (RN4 i) (RC4 i))
  rd : ∀ i, i < len → (Rd .u8 w (RA4 i) (RN4 i) (P4 i) ∧ (RA4 i = none → RC4 i = 0) ∧ RN4 i ≤ 140737488351232 ∧ RN4 i ≤ RC4 i) ∧ (V0 i).size ≤ 140737488351232 ∧ (Lit.int .i64 (V1 i)).wf = true ∧ (Lit.int .i64 (V2 i)).wf = true ∧ (Lit.int .i64 (V3 i)).wf = true
theorem OplM.only {S : List Nat} {w w' : World} {A : Option Addr} {len : Nat} {V0 : Nat → ByteArray} {V1 : Nat → Int} {V2 : Nat → Int} {V3 : Nat → Int} {RA4 : Nat → Option Addr} {RN4 RC4 : Nat → Nat} {P4 : Nat → List Int} (h : OplM w A len V0 V1 V2 V3 RA4 RN4 RC4 P4) (o : Only S w w') (hA : ∀ b off, A = some ⟨b, off, none⟩ → b ∉ S) (hP : ∀ k, k ∈ S → w.heap.size ≤ k) : OplM w' A len V0 V1 V2 V3 RA4 RN4 RC4 P4 :=
  ⟨fun h0 => by
    obtain ⟨b, off, e, hb, hc⟩ := h.cells h0
    have hbS : b ∉ S := fun hm => by have := hP b hm; omega
    refine ⟨b, off, e, Nat.lt_of_lt_of_le hb o.size, fun i hi => ?_⟩
    obtain ⟨h0, h1, h2, h3, h4⟩ := hc i hi
    exact ⟨(o.cell (p := ⟨b, _, none⟩) hb hbS).trans h0, (o.cell (p := ⟨b, _, none⟩) hb hbS).trans h1, (o.cell (p := ⟨b, _, none⟩) hb hbS).trans h2, (o.cell (p := ⟨b, _, none⟩) hb hbS).trans h3, (o.cell (p := ⟨b, _, none⟩) hb hbS).trans h4⟩,
   fun i hi => by
    obtain ⟨⟨r4, s4⟩, k0, k1, k2, k3⟩ := h.rd i hi
    exact ⟨⟨r4.only o (fun b off _ hb hm => by have := hP b hm; omega), s4⟩, k0, k1, k2, k3⟩⟩
theorem OplM.only_nil {w w' : World} {A : Option Addr} {len : Nat} {V0 : Nat → ByteArray} {V1 : Nat → Int} {V2 : Nat → Int} {V3 : Nat → Int} {RA4 : Nat → Option Addr} {RN4 RC4 : Nat → Nat} {P4 : Nat → List Int} (h : OplM w A len V0 V1 V2 V3 RA4 RN4 RC4 P4) (o : Only [] w w') : OplM w' A len V0 V1 V2 V3 RA4 RN4 RC4 P4 := h.only o (by simp) (by simp)
theorem OplM_of {w : World} {bytes bb : Nat} {A : Option Addr} {len cap : Nat} (hbb : bb = 1) (h : CK.holds w (.slice [.str, .int .i64, .int .i64, .int .i64, .slice [.int .u8] bb] bytes) (.slice A len cap)) :
    ∃ V0 V1 V2 V3 RA4 RN4 RC4 P4, OplM w A len V0 V1 V2 V3 RA4 RN4 RC4 P4 ∧ len ≤ cap ∧ cap * bytes ≤ 140737488351232 := by
  unfold CK.holds at h
  obtain ⟨A', len', cap', e, hl, hm, hb, hn, hi⟩ := h
  injection e with e1 e2 e3
  subst e1 e2 e3
  have each : ∀ i, ∃ t : ByteArray × Int × Int × Int × (Option Addr × Nat × Nat × List Int), i < cap → ∃ a, A = some a ∧ w.cell? (a.add (i * 5)) = some (.string t.1) ∧ w.cell? (a.add (i * 5 + 1)) = some (.int .i64 t.2.1) ∧ w.cell? (a.add (i * 5 + 2)) = some (.int .i64 t.2.2.1) ∧ w.cell? (a.add (i * 5 + 3)) = some (.int .i64 t.2.2.2.1) ∧ w.cell? (a.add (i * 5 + 4)) = some (.slice t.2.2.2.2.1 t.2.2.2.2.2.1 t.2.2.2.2.2.2.1) ∧ (Rd .u8 w t.2.2.2.2.1 t.2.2.2.2.2.1 t.2.2.2.2.2.2.2 ∧ (t.2.2.2.2.1 = none → t.2.2.2.2.2.2.1 = 0) ∧ t.2.2.2.2.2.1 ≤ 140737488351232 ∧ t.2.2.2.2.2.1 ≤ t.2.2.2.2.2.2.1) ∧ t.1.size ≤ 140737488351232 ∧ (Lit.int .i64 t.2.1).wf = true ∧ (Lit.int .i64 t.2.2.1).wf = true ∧ (Lit.int .i64 t.2.2.2.1).wf = true := by
    intro i
    by_cases hic : i < cap
    · obtain ⟨a, cs, ea, hcl, hc, hall⟩ := hi i hic
      obtain ⟨u0, r0, rfl, g0, hall⟩ := CK.all_cons hall
      obtain ⟨u1, r1, rfl, g1, hall⟩ := CK.all_cons hall
      obtain ⟨u2, r2, rfl, g2, hall⟩ := CK.all_cons hall
      obtain ⟨u3, r3, rfl, g3, hall⟩ := CK.all_cons hall
      obtain ⟨u4, r4, rfl, g4, hall⟩ := CK.all_cons hall
      obtain ⟨k0, rfl, hk0⟩ := CK.str_of g0
      obtain ⟨k1, rfl, hk1⟩ := CK.int_of g1
      obtain ⟨k2, rfl, hk2⟩ := CK.int_of g2
      obtain ⟨k3, rfl, hk3⟩ := CK.int_of g3
      obtain ⟨A4, n4, c4, zs4, rfl, hrow4, hb4⟩ := CK.ints g4
      have hr4 := Rd.of_row hrow4
      have hle4 := hrow4.len_le
      subst hbb
      exact ⟨(k0, k1, k2, k3, (A4, n4, c4, zs4.take n4)), fun _ => ⟨a, ea, by simpa using hc 0 (by simp), by simpa using hc 1 (by simp), by simpa using hc 2 (by simp), by simpa using hc 3 (by simp), by simpa using hc 4 (by simp), ⟨hr4, hrow4.none_cap, (by have := hle4.1; show n4 ≤ 140737488351232; omega), hle4.1⟩, hk0, hk1, hk2, hk3⟩⟩
    · exact ⟨(⟨#[]⟩, 0, 0, 0, (none, 0, 0, [])), fun h => absurd h hic⟩
  have hV := fun i => Classical.choose_spec (each i)
  refine ⟨fun i => (Classical.choose (each i)).1, fun i => (Classical.choose (each i)).2.1, fun i => (Classical.choose (each i)).2.2.1, fun i => (Classical.choose (each i)).2.2.2.1, fun i => (Classical.choose (each i)).2.2.2.2.1, fun i => (Classical.choose (each i)).2.2.2.2.2.1, fun i => (Classical.choose (each i)).2.2.2.2.2.2.1, fun i => (Classical.choose (each i)).2.2.2.2.2.2.2, ⟨fun h0 => ?_, fun i hi' => ?_⟩, hl, hb⟩
  · obtain ⟨a, ea, h1, _⟩ := hV 0 (by omega)
    obtain ⟨b, off, spot⟩ := a
    have hsp : spot = none := by
      have := World.cell?_spot h1
      simpa [Addr.add] using this
    subst hsp
    rw [addr_plus] at h1
    refine ⟨b, off, ea, block_lt_of_cell h1, fun i hi' => ?_⟩
    obtain ⟨a', ea', h0, h1, h2, h3, h4, _⟩ := hV i (by omega)
    rw [ea] at ea'
    injection ea' with ea'
    subst ea'
    rw [addr_plus] at h0 h1 h2 h3 h4
    exact ⟨h0, by rw [Nat.add_assoc]; exact h1, by rw [Nat.add_assoc]; exact h2, by rw [Nat.add_assoc]; exact h3, by rw [Nat.add_assoc]; exact h4⟩
  · obtain ⟨a', ea', _, _, _, _, _, hrest⟩ := hV i (by omega)
    exact hrest
end Go.Proofs.Ytfoecnlbiaiibaa
