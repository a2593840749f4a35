/-
  Chapter 23 (lease): the small helpers of Encode: isType, cookie, option; by a walk of each text. Conditions: none but those typed.
-/
import Derived.Test.YtdpmjghdmpaehaaAp0
import Derived.Test.YtdpmjghdmpaehaaBeq
import Derived.Test.YtdpmjghdmpaehaaRef1
namespace Go.Proofs.Ytdpmjghdmpaehaa.ls
set_option linter.unusedVariables false
set_option linter.unusedSimpArgs false
open Go.ChangeShapes Go.WideShapes Go.ChangeAt Go.RowKit Go.IntWalk Go.Lib
theorem type1 (w : World) (x : Int) : Calls Try.prog 29 #[.int .i64 x] w fun e w' => e = .returned (.bool (decide (1 ≤ x ∧ x ≤ 7))) ∧ w = w' := by
  by_cases h1 : 1 ≤ x
  · by_cases h2 : x ≤ 7
    · rw [decide_eq_true (show 1 ≤ x ∧ x ≤ 7 from ⟨h1, h2⟩)]
      go_enter Try.func29, Try.ntmps29
      go_wp2
      go_ret
      exact ⟨rfl, rfl⟩
    · rw [decide_eq_false (show ¬ (1 ≤ x ∧ x ≤ 7) from fun h => h2 h.2)]
      have d2 : decide (x ≤ 7) = false := decide_eq_false h2
      go_enter Try.func29, Try.ntmps29
      go_wp2
      go_ret
      exact ⟨rfl, rfl⟩
  · rw [decide_eq_false (show ¬ (1 ≤ x ∧ x ≤ 7) from fun h => h1 h.1)]
    have d1 : decide (1 ≤ x) = false := decide_eq_false h1
    go_enter Try.func29, Try.ntmps29
    go_wp2
    go_ret
    exact ⟨rfl, rfl⟩
theorem cookie1 (w : World) : Calls Try.prog 33 #[] w fun e w' => e = .returned (.slice (some ⟨w.heap.size, 0, none⟩) 4 4) ∧ Own .u8 5 w' w.heap.size (.slice (some ⟨w.heap.size, 0, none⟩) 4 4) [99, 130, 83, 99] ∧ Only [] w w' := by
  have HO : Hid (Own .u8 5 (w.alloc (.cells #[.int .u8 99, .int .u8 130, .int .u8 83, .int .u8 99] 5)) w.heap.size (.slice (some ⟨w.heap.size, 0, none⟩) 4 4) [99, 130, 83, 99]) := hid (Own.lit .u8 5 w w.heap.size [99, 130, 83, 99] _ 4 rfl rfl (Nat.le_refl _) (by simp [maxLen]) (by decide))
  go_enter Try.func33, Try.ntmps33
  go_wp2
  go_ret
  exact ⟨rfl, HO.out, (Only.refl [] w).alloc _⟩
set_option maxHeartbeats 1000000 in
theorem option1 (w : World) (g base : Nat) (v : Value) (l : List Int) (kd : Int) (A : Option Addr) (n c : Nat) (p : List Int) (h : wrt.Wr w g base v l) (hl : l.length ≤ 100000) (hp : Rd .u8 w A n p) (hc0 : A = none → c = 0) (hn : n ≤ 1000)
    (hap : ∀ b off, A = some ⟨b, off, none⟩ → b ≠ g ∧ v.ownBlock ≠ some b ∧ b < w.heap.size) :
    Calls Try.prog 34 #[.pointer (some ⟨g, 0, none⟩), .int .i64 kd, .slice A n c] w fun e w' => e = .returned (.tuple #[]) ∧ Below base w w' ∧ ∃ v', wrt.Wr w' g base v' (l ++ [kd % 256, (n : Int) % 256] ++ p) := by
  have H := hid h; have HP := hid hp; have HC := hid hc0; have HA := hid hap
  clear h hp hc0 hap
  go_enter Try.func34, Try.ntmps34
  go_wp2_with fail
  refine (wrt.byte3 w g base v l kd H.out (by omega)).mono ?_
  rintro x w1 ⟨rfl, b1, v1, h1, o1, f1⟩
  have H1 := hid h1; have B1 := hid b1
  have HP1 := hid (HP.out.keep (fun b hb ho => by
    obtain ⟨off, e⟩ := ho
    have h9 := HA.out b off e
    exact o1.block b hb (by simp [h9.1]; intro h8; exact h9.2.1 h8)))
  have HA1 : Hid (∀ b off, A = some ⟨b, off, none⟩ → b ≠ g ∧ v1.ownBlock ≠ some b) := hid (fun b off e => by
    have h9 := HA.out b off e
    refine ⟨h9.1, fun h8 => ?_⟩
    rcases f1 b h8 with h7 | h7
    · exact h9.2.1 h7
    · omega)
  clear h1 b1 o1 f1
  go_wp2_with fail
  refine (wrt.byte3 w1 g base v1 _ (n : Int) H1.out (by simp; omega)).mono ?_
  rintro x w2 ⟨rfl, b2, v2, h2, o2, f2⟩
  have H2 := hid h2; have B2 := hid (B1.out.trans b2)
  have HP2 := hid (HP1.out.keep (fun b hb ho => by
    obtain ⟨off, e⟩ := ho
    have h9 := HA1.out b off e
    exact o2.block b hb (by simp [h9.1]; intro h8; exact h9.2 h8)))
  clear h2 b2 o2 f2
  go_wp2_with fail
  refine (wrt.raw2 w2 g base v2 _ A n c p H2.out (by simp; omega) HP2.out HC.out (by omega)).mono ?_
  rintro x w3 ⟨rfl, b3, v3, h3, _, _⟩
  have H3 := hid h3; have B3 := hid (B2.out.trans b3)
  clear h3 b3
  go_wp2_with fail
  refine bodyPost_end (results_none rfl _ _ _) rfl ?_
  refine ⟨rfl, B3.out, v3, ?_⟩
  have h9 := H3.out
  simpa using h9
/-- An option, if it is there. -/
def opt (k v : Int) : List Int := if v = 0 then [] else [k, 4, v / 16777216 % 256, v / 65536 % 256, v / 256 % 256, v % 256]
theorem opt_len (k v : Int) : (opt k v).length ≤ 6 := by unfold opt; split <;> simp
/-- So many noughts. -/
def zr (n : Nat) : List Int := List.replicate n 0
theorem zr_len (n : Nat) : (zr n).length = n := List.length_replicate
/-- What stands ahead of the options. -/
def head (op id yo c0 c1 c2 c3 c4 c5 : Int) : List Int := [op, 1, 6, 0] ++ ([id / 16777216 % 256, id / 65536 % 256, id / 256 % 256, id % 256] ++ (zr 8 ++ ([yo / 16777216 % 256, yo / 65536 % 256, yo / 256 % 256, yo % 256] ++ (zr 8 ++ ([c0, c1, c2, c3, c4, c5] ++ (zr 202 ++ [99, 130, 83, 99]))))))
theorem head_len (op id yo c0 c1 c2 c3 c4 c5 : Int) : (head op id yo c0 c1 c2 c3 c4 c5).length = 240 := by unfold head; simp only [List.length_append, List.length_cons, List.length_nil, zr_len]
def enc (op id yo c0 c1 c2 c3 c4 c5 ty sv ak ti mk ro re : Int) : List Int := head op id yo c0 c1 c2 c3 c4 c5 ++ ([53, 1, ty] ++ (opt 54 sv ++ (opt 50 ak ++ (opt 51 ti ++ (opt 1 mk ++ (opt 3 ro ++ (opt 6 re ++ [255])))))))
/-- The message's numbers serve. -/
def Good (op ty ti : Int) : Prop := (op = 1 ∨ op = 2) ∧ (1 ≤ ty ∧ ty ≤ 7) ∧ 0 ≤ ti ∧ ti ≤ 2147483647
end Go.Proofs.Ytdpmjghdmpaehaa.ls
