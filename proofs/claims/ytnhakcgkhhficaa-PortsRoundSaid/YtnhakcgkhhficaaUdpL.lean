/-
  Chapter 11 (udp): a binding is looked for by its id, by a walk of the text. Conditions: none but those typed.
-/
import Derived.Test.YtnhakcgkhhficaaUdpK
namespace Go.Proofs.Ytnhakcgkhhficaa.udp
set_option linter.unusedVariables false
set_option linter.unusedSimpArgs false
open Go.ChangeShapes Go.WideShapes Go.ChangeAt Go.RowKit Go.IntWalk Go.Lib
/-- n bindings lie at A: their ids, addresses, ports and peers. -/
def Bnds (w : World) (A : Option Addr) (n : Nat) (I D P E F : Nat → Int) : Prop :=
  0 < n → ∃ b off, A = some ⟨b, off, none⟩ ∧ b < w.heap.size ∧ ∀ i, i < n → w.cell? ⟨b, off + i * 5, none⟩ = some (.int .i64 (I i)) ∧ w.cell? ⟨b, off + i * 5 + 1, none⟩ = some (.int .u32 (D i)) ∧ w.cell? ⟨b, off + i * 5 + 2, none⟩ = some (.int .i64 (P i)) ∧ w.cell? ⟨b, off + i * 5 + 3, none⟩ = some (.int .u32 (E i)) ∧ w.cell? ⟨b, off + i * 5 + 4, none⟩ = some (.int .i64 (F i))
theorem Bnds.only_nil {w w' : World} {A : Option Addr} {n : Nat} {I D P E F : Nat → Int} (h : Bnds w A n I D P E F) (o : Only [] w w') : Bnds w' A n I D P E F := fun h0 => by
  obtain ⟨b, off, e, hb, hc⟩ := h h0
  refine ⟨b, off, e, Nat.lt_of_lt_of_le hb o.size, fun i hi => ?_⟩
  obtain ⟨h1, h2, h3, h4, h5⟩ := hc i hi
  exact ⟨o.keep h1, o.keep h2, o.keep h3, o.keep h4, o.keep h5⟩
/-- Where the first binding of an id stands. -/
def IdxEnd (I : Nat → Int) (id : Int) (n : Nat) (w : World) (x : Ending) (w' : World) : Prop :=
  ∃ r : Int, x = .returned (.int .i64 r) ∧ ((r = -1 ∧ ∀ i, i < n → I i ≠ id) ∨ ∃ k : Nat, k < n ∧ r = k ∧ I k = id ∧ ∀ i, i < k → I i ≠ id) ∧ Only [] w w'
set_option maxHeartbeats 2000000 in
theorem idxId (w : World) (A : Option Addr) (n c : Nat) (I D P E F : Nat → Int) (g : Nat) (id : Int) (h : Bnds w A n I D P E F) (hg : Ob w g 3 #[.int .i64 id]) (hn : n ≤ 140737488355328) :
    Calls Try.prog 55 #[.slice A n c, .func (.func 56) #[] #[.pointer (some ⟨g, 0, none⟩)]] w (IdxEnd I id n w) := by
  have H := hid h; have HG := hid hg; clear h hg
  go_enter Try.func55, Try.ntmps55
  go_wp2
  go_loopw [8] (fun i wr => ∃ k : Nat, k ≤ n ∧ i = .int .i64 k ∧ Hid (∀ i, i < k → I i ≠ id) ∧ Hid (Only [] w wr)) (fun i _ => n - (intOf i).toNat)
  case atStart => exact ⟨0, by omega, rfl, hid (fun i hi => absurd hi (by omega)), hid (Only.refl _ _)⟩
  case round =>
    obtain ⟨k, hk, rfl, HN, HB⟩ := hrel
    by_cases hlt : k < n
    · obtain ⟨b, off, rfl, hb, hc⟩ := (H.out.only_nil HB.out) (by omega)
      obtain ⟨q0, q1, q2, q3, q4⟩ := hc k hlt
      clear hc
      go_wp2_with fail
      refine (isId _ g (I k) (D k) (P k) (E k) (F k) id (HG.out.only HB.out (by simp))).mono ?_
      rintro x w2 ⟨rfl, o2⟩
      have HB := hid (HB.out.trans o2); clear o2 q0 q1 q2 q3 q4
      by_cases he : I k = id
      · have HE := hid he
        rw [show (I k == id) = true from by simpa using he]
        clear he
        go_wp2
        go_ret
        exact ⟨_, rfl, .inr ⟨k, hlt, rfl, HE.out, HN.out⟩, HB.out⟩
      · have HE := hid he
        rw [show (I k == id) = false from by simpa using he]
        clear he
        go_wp2
        go_roundw
        case rel => exact ⟨k + 1, by omega, by go_num, hid (fun i hi => by
          rcases Nat.lt_or_ge i k with h1 | h1
          · exact HN.out i h1
          · obtain rfl : i = k := by omega
            exact HE.out), HB⟩
        case measure => simp [intOf]; omega
    · obtain rfl : k = n := by omega
      go_wp2
      go_ret
      exact ⟨_, rfl, .inl ⟨rfl, HN.out⟩, HB.out⟩
end Go.Proofs.Ytnhakcgkhhficaa.udp
