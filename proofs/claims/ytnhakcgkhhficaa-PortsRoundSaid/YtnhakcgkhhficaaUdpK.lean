/-
  Chapter 11 (udp): who has which port, over no binding and over one, by a walk of each text. Conditions: none but those typed.
-/
import Derived.Test.YtnhakcgkhhficaaUdpB
namespace Go.Proofs.Ytnhakcgkhhficaa.udp
set_option linter.unusedVariables false
set_option linter.unusedSimpArgs false
open Go.ChangeShapes Go.WideShapes Go.ChangeAt Go.RowKit Go.IntWalk Go.Lib
theorem idx0 (w : World) (f : Value) : Calls Try.prog 55 #[.slice none 0 0, f] w fun x w' => x = .returned (.int .i64 (-1)) ∧ w = w' := by
  go_enter Try.func55, Try.ntmps55
  go_wp2
  go_loop [8] (fun i => i = .int .i64 0) (fun _ => 0)
  case atStart => rfl
  case round =>
    subst hrel
    go_wp2
    go_ret
    exact ⟨rfl, rfl⟩
theorem has0 (w : World) (f : Value) : Calls Try.prog 50 #[.slice none 0 0, f] w fun x w' => x = .returned (.bool false) ∧ w = w' := by
  go_enter Try.func50, Try.ntmps50
  go_wp2_with fail
  refine (idx0 _ _).mono ?_
  rintro x w' ⟨rfl, rfl⟩
  go_wp2
  go_ret
  exact ⟨rfl, rfl⟩
theorem place0 (w : World) (g : Nat) (id : Int) (h : Ob w g 56 #[.slice none 0 0]) : Calls Try.prog 35 #[.pointer (some ⟨g, 0, none⟩), .int .i64 id] w fun x w' => x = .returned (.int .i64 (-1)) ∧ Only [] w w' := by
  have c0 := h.cell 0
  have hlt := h.lt
  clear h
  have QB : Hid (Only [] w (w.alloc (.cells #[.int .i64 id] 3))) := hid ((Only.refl [] w).alloc _)
  go_enter Try.func35, Try.ntmps35
  go_wp2_with fail
  refine (idx0 _ _).mono ?_
  rintro x w' ⟨rfl, rfl⟩
  go_wp2
  go_ret
  exact ⟨rfl, QB.out⟩
theorem room0 (w : World) (g : Nat) (id : Int) (h : Ob w g 56 #[.slice none 0 0]) : Calls Try.prog 30 #[.pointer (some ⟨g, 0, none⟩), .int .i64 id] w fun x w' => x = .returned (.int .i64 0) ∧ Only [] w w' := by
  have H := hid h; clear h
  go_enter Try.func30, Try.ntmps30
  go_wp2_with fail
  refine (place0 w g id H.out).mono ?_
  rintro x w' ⟨rfl, o⟩
  have QB := hid o
  have c0 := (H.out.only o (by simp)).cell 0
  clear o
  go_wp2
  go_ret
  exact ⟨rfl, QB.out⟩
/-- The functions that are handed to the searches. -/
theorem isId (w : World) (g : Nat) (i a p pa pp id : Int) (h : Ob w g 3 #[.int .i64 id]) : Calls Try.prog 56 #[.agg #[.int .i64 i, .int .u32 a, .int .i64 p, .int .u32 pa, .int .i64 pp], .pointer (some ⟨g, 0, none⟩)] w fun x w' => x = .returned (.bool (i == id)) ∧ Only [] w w' := by
  have c0 := h.cell 0
  have hlt := h.lt
  clear h
  have QB : Hid (Only [] w (w.alloc (.cells #[.int .i64 i, .int .u32 a, .int .i64 p, .int .u32 pa, .int .i64 pp] 74))) := hid ((Only.refl [] w).alloc _)
  go_enter Try.func56, Try.ntmps56
  go_wp2
  go_ret
  exact ⟨rfl, QB.out⟩
theorem isTaken (w : World) (g g' : Nat) (i a p pa pp port ad : Int) (h : Ob w g 3 #[.int .i64 port]) (h' : Ob w g' 23 #[.int .u32 ad]) : Calls Try.prog 51 #[.agg #[.int .i64 i, .int .u32 a, .int .i64 p, .int .u32 pa, .int .i64 pp], .pointer (some ⟨g, 0, none⟩), .pointer (some ⟨g', 0, none⟩)] w fun x w' => x = .returned (.bool (decide (p = port ∧ (a = ad ∨ a = 0 ∨ ad = 0)))) ∧ Only [] w w' := by
  have c0 := h.cell 0
  have hlt := h.lt
  have c1 := h'.cell 0
  have hlt1 := h'.lt
  clear h h'
  have QB : Hid (Only [] w (w.alloc (.cells #[.int .i64 i, .int .u32 a, .int .i64 p, .int .u32 pa, .int .i64 pp] 74))) := hid ((Only.refl [] w).alloc _)
  by_cases hp : p = port
  · subst hp
    have hv : ∀ b : Bool, b = decide (a = ad ∨ a = 0 ∨ ad = 0) → b = decide (p = p ∧ (a = ad ∨ a = 0 ∨ ad = 0)) := fun b hb => by simp [hb]
    have HV := hid hv; clear hv
    by_cases h1 : a = ad
    · subst h1
      go_enter Try.func51, Try.ntmps51
      go_wp2
      go_ret
      exact ⟨rBool (by simp), QB.out⟩
    · have e1 : (a == ad) = false := by simpa using h1
      by_cases h2 : a = 0
      · subst h2
        clear h1
        go_enter Try.func51, Try.ntmps51
        go_wp2
        go_ret
        exact ⟨rBool (by simp), QB.out⟩
      · have e2 : (a == 0) = false := by simpa using h2
        by_cases h3 : ad = 0
        · subst h3
          clear h1 h2
          go_enter Try.func51, Try.ntmps51
          go_wp2
          go_ret
          exact ⟨rBool (by simp), QB.out⟩
        · have e3 : (ad == 0) = false := by simpa using h3
          have H1 := hid h1; have H2 := hid h2; have H3 := hid h3
          clear h1 h2 h3
          go_enter Try.func51, Try.ntmps51
          go_wp2
          go_ret
          exact ⟨rBool (by simp [H1.out, H2.out, H3.out]), QB.out⟩
  · have e0 : (p == port) = false := by simpa using hp
    have HX : Hid (decide (p = port ∧ (a = ad ∨ a = 0 ∨ ad = 0)) = false) := hid (by simp [hp])
    clear hp
    go_enter Try.func51, Try.ntmps51
    go_wp2
    go_ret
    exact ⟨rBool HX.out.symm, QB.out⟩
end Go.Proofs.Ytnhakcgkhhficaa.udp
