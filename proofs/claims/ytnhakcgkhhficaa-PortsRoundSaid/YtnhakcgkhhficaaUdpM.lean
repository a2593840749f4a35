/-
  Chapter 11 (udp): a binding in the way is looked for, by a walk of the text. Conditions: none but those typed.
-/
import Derived.Test.YtnhakcgkhhficaaUdpL
namespace Go.Proofs.Ytnhakcgkhhficaa.udp
set_option linter.unusedVariables false
set_option linter.unusedSimpArgs false
open Go.ChangeShapes Go.WideShapes Go.ChangeAt Go.RowKit Go.IntWalk Go.Lib
/-- Is a binding in the way of a port? -/
def inWay (D P : Nat → Int) (port ad : Int) (k : Nat) : Bool := decide (P k = port ∧ (D k = ad ∨ D k = 0 ∨ ad = 0))
/-- Where the first binding in the way stands. -/
def TknEnd (T : Nat → Bool) (n : Nat) (w : World) (x : Ending) (w' : World) : Prop :=
  ∃ r : Int, x = .returned (.int .i64 r) ∧ ((r = -1 ∧ ∀ i, i < n → T i = false) ∨ ∃ k : Nat, k < n ∧ r = k ∧ T k = true ∧ ∀ i, i < k → T i = false) ∧ Only [] w w'
set_option maxHeartbeats 2000000 in
theorem idxTkn (w : World) (A : Option Addr) (n c : Nat) (I D P E F : Nat → Int) (g g' : Nat) (port ad : Int) (h : Bnds w A n I D P E F) (hg : Ob w g 3 #[.int .i64 port]) (hg' : Ob w g' 23 #[.int .u32 ad]) (hn : n ≤ 140737488355328) :
    Calls Try.prog 55 #[.slice A n c, .func (.func 51) #[] #[.pointer (some ⟨g, 0, none⟩), .pointer (some ⟨g', 0, none⟩)]] w (TknEnd (inWay D P port ad) n w) := by
  have H := hid h; have HG := hid hg; have HG' := hid hg'; clear h hg hg'
  go_enter Try.func55, Try.ntmps55
  go_wp2
  go_loopw [8] (fun i wr => ∃ k : Nat, k ≤ n ∧ i = .int .i64 k ∧ Hid (∀ i, i < k → inWay D P port ad i = false) ∧ Hid (Only [] w wr)) (fun i _ => n - (intOf i).toNat)
  case atStart => exact ⟨0, by omega, rfl, hid (fun i hi => absurd hi (by omega)), hid (Only.refl _ _)⟩
  case round =>
    obtain ⟨k, hk, rfl, HN, HB⟩ := hrel
    by_cases hlt : k < n
    · obtain ⟨b, off, rfl, hb, hc⟩ := (H.out.only_nil HB.out) (by omega)
      obtain ⟨q0, q1, q2, q3, q4⟩ := hc k hlt
      clear hc
      go_wp2_with fail
      refine (isTaken _ g g' (I k) (D k) (P k) (E k) (F k) port ad (HG.out.only HB.out (by simp)) (HG'.out.only HB.out (by simp))).mono ?_
      rintro x w2 ⟨rfl, o2⟩
      have HB := hid (HB.out.trans o2); clear o2 q0 q1 q2 q3 q4
      rw [show decide (P k = port ∧ (D k = ad ∨ D k = 0 ∨ ad = 0)) = inWay D P port ad k from rfl]
      by_cases he : inWay D P port ad k = true
      · have HE := hid he
        rw [he]
        clear he
        go_wp2
        go_ret
        exact ⟨_, rfl, .inr ⟨k, hlt, rfl, HE.out, HN.out⟩, HB.out⟩
      · have he : inWay D P port ad k = false := by simpa using he
        have HE := hid he
        rw [he]
        clear he
        go_wp2
        go_roundw
        case rel => exact ⟨k + 1, by omega, by go_num, hid (fun i hi => by
          rcases Nat.lt_or_ge i k with h1 | h1
          · exact HN.out i h1
          · obtain rfl : i = k := by omega
            exact HE.out), HB⟩
        case measure => simp [intOf]; omega
    · obtain rfl : k = n := by omega
      go_wp2
      go_ret
      exact ⟨_, rfl, .inl ⟨rfl, HN.out⟩, HB.out⟩
end Go.Proofs.Ytnhakcgkhhficaa.udp
