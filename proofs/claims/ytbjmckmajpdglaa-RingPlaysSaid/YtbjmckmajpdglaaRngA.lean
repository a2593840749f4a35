/-
  Chapter 13 (ring): what the functions of a Ring do, each by a walk of its text. Conditions: none but those typed.
-/
import Derived.Test.YtbjmckmajpdglaaRngL
import Derived.Test.YtbjmckmajpdglaaRgn
import Derived.Test.YtbjmckmajpdglaaHlp13
namespace Go.Proofs.Ytbjmckmajpdglaa.rng
set_option linter.unusedVariables false
set_option linter.unusedSimpArgs false
open Go.ChangeShapes Go.WideShapes Go.ChangeAt Go.RowKit Go.IntWalk Go.Lib
/-- A Ring at g: its row of N bytes at block b, the first byte's place, and how many there are. -/
abbrev RObj (w : World) (g b N f c : Nat) : Prop := Ob w g 66 #[.slice (some ⟨b, 0, none⟩) N N, .int .i64 f, .int .i64 c]
theorem place (w : World) (g b N f c i : Nat) (h : RObj w g b N f c) (hN : 1 ≤ N ∧ N ≤ 1048560) (hf : f < N) (hi : i ≤ N) :
    Calls Try.prog 32 #[.pointer (some ⟨g, 0, none⟩), .int .i64 i] w fun e w' => e = .returned (.int .i64 ((f + i) % N : Nat)) ∧ ∃ q, w' = w.drewN q := by
  have c0 : w.cell? ⟨g, 0, none⟩ = some (.slice (some ⟨b, 0, none⟩) N N) := h.cell 0
  have c1 : w.cell? ⟨g, 1, none⟩ = some (.int .i64 f) := h.cell 1
  have hlt := h.lt
  have HV : Hid (((f : Int) + i).tmod N = ((f + i) % N : Nat)) := hid (by rw [Int.tmod_eq_emod_of_nonneg (by omega)]; push_cast; rfl)
  have hne : ((N : Int) == 0) = false := by simp; omega
  clear h
  go_enter Try.func32, Try.ntmps32
  go_wp2
  go_quiet (fail)
  go_wp2
  go_ret
  exact ⟨rInt (by push_cast; rfl), _, rfl⟩
theorem len (w : World) (g b N f c : Nat) (h : RObj w g b N f c) :
    Calls Try.prog 22 #[.pointer (some ⟨g, 0, none⟩)] w fun e w' => e = .returned (.int .i64 c) ∧ w = w' := by
  have c0 : w.cell? ⟨g, 2, none⟩ = some (.int .i64 c) := h.cell 2
  have hlt := h.lt
  clear h
  go_enter Try.func22, Try.ntmps22
  go_wp2
  go_ret
  exact ⟨rfl, rfl⟩
theorem free (w : World) (g b N f c : Nat) (h : RObj w g b N f c) (hN : N ≤ 1048560) (hc : c ≤ N) :
    Calls Try.prog 24 #[.pointer (some ⟨g, 0, none⟩)] w fun e w' => e = .returned (.int .i64 (N - c : Nat)) ∧ ∃ q, w' = w.drewN q := by
  have c0 : w.cell? ⟨g, 0, none⟩ = some (.slice (some ⟨b, 0, none⟩) N N) := h.cell 0
  have c1 : w.cell? ⟨g, 2, none⟩ = some (.int .i64 c) := h.cell 2
  have hlt := h.lt
  have HV : Hid ((N : Int) - c = (N - c : Nat)) := hid (by omega)
  clear h
  go_enter Try.func24, Try.ntmps24
  go_wp2
  go_quiet (fail)
  go_wp2
  go_ret
  exact ⟨rInt HV.out, _, rfl⟩
end Go.Proofs.Ytbjmckmajpdglaa.rng
