/-
  Chapter 14 (segment): each part of a segment at its place, the law by a walk of its text. Conditions: none but those typed.
-/
import Derived.Test.YtkpdgfimibmoeaaSegD
import Derived.Test.YtkpdgfimibmoeaaRef14
import Derived.Laws.EntriesVeiled
namespace Go.Proofs.Ytkpdgfimibmoeaa.seg
set_option linter.unusedVariables false
set_option linter.unusedSimpArgs false
open Go.ChangeShapes Go.WideShapes Go.ChangeAt Go.RowKit Go.IntWalk Go.Lib
theorem two_at (w : World) (t g L cap : Nat) (e : List Int) (x : Int) (i : Nat) (ht : Ob w t 24 #[.slice (some ⟨g, 0, none⟩) L cap]) (he : Rd .u8 w (some ⟨g, 0, none⟩) L e) (hx : x = i) (hi : i + 1 < L) (hL : L ≤ 100000) :
    Calls Try.prog 26 #[.int .i64 x, .pointer (some ⟨t, 0, none⟩)] w fun x w' => x = .returned (.int .i64 (e.getD i 0 * 256 + e.getD (i + 1) 0)) ∧ ∃ m, w' = w.drewN m := by
  subst hx
  obtain ⟨b1, off1, e1, hb, hc⟩ := he.at_ (by omega)
  injection e1 with e1; injection e1 with e1 e2
  subst e1 e2
  have q0 := hc i (by omega)
  have q1 := hc (i + 1) (by omega)
  simp only [Nat.zero_add] at q0 q1
  have w0 := u8Bd (he.getD_wf i (by omega))
  have w1 := u8Bd (he.getD_wf (i + 1) (by omega))
  have c0 := ht.cell 0
  clear hc he ht
  generalize e.getD i 0 = p at *
  generalize e.getD (i + 1) 0 = q at *
  have hs : IntKind.i64.wrap ((i : Int) + 1) = (i : Int) + 1 := i64_in _ (by omega)
  have hs2 : IntKind.i64.wrap (p * 256) = p * 256 := i64_in _ (by omega)
  have hs3 : IntKind.i64.wrap (p * 256 + q) = p * 256 + q := i64_in _ (by omega)
  have ht : ((i : Int) + 1).toNat = i + 1 := by omega
  have hp : 0 ≤ (i : Int) + 1 := by omega
  go_enter Try.func26, Try.ntmps26
  go_wp2
  go_quiet (fail)
  go_wp2
  go_ret
  exact ⟨rInt (by first | rfl | (simp [hs2, hs3])), _, rfl⟩
set_option maxHeartbeats 1000000 in
theorem four_at (w : World) (t g L cap : Nat) (e : List Int) (x : Int) (i : Nat) (ht : Ob w t 24 #[.slice (some ⟨g, 0, none⟩) L cap]) (he : Rd .u8 w (some ⟨g, 0, none⟩) L e) (hx : x = i) (hi : i + 3 < L) (hL : L ≤ 100000) :
    Calls Try.prog 25 #[.int .i64 x, .pointer (some ⟨t, 0, none⟩)] w fun x w' => x = .returned (.int .u32 (ref.get4 e i)) ∧ ∃ m, w' = w.drewN m := by
  subst hx
  obtain ⟨b1, off1, e1, hb, hc⟩ := he.at_ (by omega)
  injection e1 with e1; injection e1 with e1 e2
  subst e1 e2
  have q0 := hc i (by omega)
  have q1 := hc (i + 1) (by omega)
  have q2 := hc (i + 2) (by omega)
  have q3 := hc (i + 3) (by omega)
  simp only [Nat.zero_add] at q0 q1 q2 q3
  have w0 := u8Bd (he.getD_wf i (by omega))
  have w1 := u8Bd (he.getD_wf (i + 1) (by omega))
  have w2 := u8Bd (he.getD_wf (i + 2) (by omega))
  have w3 := u8Bd (he.getD_wf (i + 3) (by omega))
  have c0 := ht.cell 0
  have HG : Hid (ref.get4 e i = e.getD i 0 * 16777216 + e.getD (i + 1) 0 * 65536 + e.getD (i + 2) 0 * 256 + e.getD (i + 3) 0) := hid rfl
  clear hc he ht
  generalize e.getD i 0 = x at *
  generalize e.getD (i + 1) 0 = y at *
  generalize e.getD (i + 2) 0 = z at *
  generalize e.getD (i + 3) 0 = u at *
  have J := hid (or_get4 x y z u w0 w1 w2 w3)
  have hs1 : IntKind.i64.wrap ((i : Int) + 1) = (i : Int) + 1 := i64_in _ (by omega)
  have hs2 : IntKind.i64.wrap ((i : Int) + 2) = (i : Int) + 2 := i64_in _ (by omega)
  have hs3 : IntKind.i64.wrap ((i : Int) + 3) = (i : Int) + 3 := i64_in _ (by omega)
  have ht1 : ((i : Int) + 1).toNat = i + 1 := by omega
  have ht2 : ((i : Int) + 2).toNat = i + 2 := by omega
  have ht3 : ((i : Int) + 3).toNat = i + 3 := by omega
  have hp1 : 0 ≤ (i : Int) + 1 := by omega
  have hp2 : 0 ≤ (i : Int) + 2 := by omega
  have hp3 : 0 ≤ (i : Int) + 3 := by omega
  go_enter Try.func25, Try.ntmps25
  go_wp2
  go_quiet (fail)
  go_wp2
  go_ret
  exact ⟨rInt (J.out.trans HG.out.symm), _, rfl⟩
theorem known_enc : (encB 167772161 167772162 1 0 1 2 2 1000 1460 (-1) []).length = 24 ∧ (encB 167772161 167772162 1 0 1 2 2 1000 1460 (-1) []).getD 12 0 = 96 ∧ (encB 167772161 167772162 1 0 1 2 2 1000 1460 (-1) []).getD 20 0 = 2 ∧ (encB 167772161 167772162 1 0 1 2 2 1000 1460 (-1) []).getD 22 0 = 5 ∧ (encB 167772161 167772162 1 0 1 2 2 1000 1460 (-1) []).getD 23 0 = 180 := by decide +kernel
set_option maxHeartbeats 2000000 in
theorem known (w : World) : Calls Try.prog 15 #[] w fun x w' => x = .returned (.bool true) ∧ Only [] w w' := by
  have HC : Hid (chk 1 2 2 1000 1460 (-1) 0 = 0) := hid (by decide +kernel)
  go_enter Try.func15, Try.ntmps15
  go_wp2_with fail
  refine (enc1 w 167772161 167772162 1 0 1 2 2 1000 1460 (-1) none 0 0 [] (Rd.nil _ _ _) (fun _ => rfl) (by omega) HC.out).mono ?_
  rintro x w1 ⟨v1, rfl, o1, q1⟩
  obtain ⟨k0, k1, k2, k3, k4⟩ := known_enc
  obtain ⟨g, cap, e1⟩ := o1.some_form (by rw [k0]; omega)
  rw [k0] at e1
  subst e1
  have c12 := o1.cellD 12 (by omega)
  have c20 := o1.cellD 20 (by omega)
  have c22 := o1.cellD 22 (by omega)
  have c23 := o1.cellD 23 (by omega)
  rw [k1] at c12
  rw [k2] at c20
  rw [k3] at c22
  rw [k4] at c23
  have Q1 := hid q1
  clear o1 q1 k0 k1 k2 k3 k4
  go_wp2
  try go_quiet (fail)
  try go_wp2
  go_ret
  exact ⟨rfl, by first | exact Q1.out | exact Q1.out.drewN _⟩
end Go.Proofs.Ytkpdgfimibmoeaa.seg
