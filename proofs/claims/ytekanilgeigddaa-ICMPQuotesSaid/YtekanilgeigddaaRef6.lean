/-
  The document's numbers as bytes: written and read, by a walk of each text. Conditions: none but those typed.
-/
import Derived.Test.YtekanilgeigddaaRows
import Derived.Test.YtekanilgeigddaaOwn
import Derived.Test.YtekanilgeigddaaOrm
import Derived.Deep.QuietTactic
import Derived.BigQuiet
namespace Go.Proofs.Ytekanilgeigddaa.ref
set_option linter.unusedVariables false
set_option linter.unusedSimpArgs false
open Go.ChangeShapes Go.WideShapes Go.ChangeAt Go.RowKit Go.IntWalk Go.Lib
theorem u8wf {z : Int} (h : 0 ≤ z ∧ z ≤ 255) : (Lit.int .u8 z).wf = true := (Lit.wf_int_iff .u8 z).2 h
def two (x : Int) : List Int := [x / 256 % 256, x % 256]
def four (x : Int) : List Int := [x / 16777216 % 256, x / 65536 % 256, x / 256 % 256, x % 256]
theorem two_wf (x : Int) : ∀ z ∈ two x, (Lit.int .u8 z).wf = true := by
  intro z hz; simp only [two, List.mem_cons, List.not_mem_nil, or_false] at hz; apply u8wf; omega
theorem four_wf (x : Int) : ∀ z ∈ four x, (Lit.int .u8 z).wf = true := by
  intro z hz; simp only [four, List.mem_cons, List.not_mem_nil, or_false] at hz; apply u8wf; omega
def get2 (l : List Int) (i : Nat) : Int := l.getD i 0 * 256 + l.getD (i + 1) 0
def get4 (l : List Int) (i : Nat) : Int := l.getD i 0 * 16777216 + l.getD (i + 1) 0 * 65536 + l.getD (i + 2) 0 * 256 + l.getD (i + 3) 0
theorem two1 (w : World) (x : Int) :
    Calls Try.prog 64 #[.int .i64 x] w fun e w' => ∃ g, e = .returned (.slice (some ⟨g, 0, none⟩) 2 2) ∧ Own .u8 5 w' w.heap.size (.slice (some ⟨g, 0, none⟩) 2 2) (two x) ∧ Only [] w w' := by
  have HO : Hid (Own .u8 5 (w.alloc (.cells #[.int .u8 (x / 256 % 256), .int .u8 (x % 256)] 5)) w.heap.size (.slice (some ⟨w.heap.size, 0, none⟩) 2 2) (two x)) := hid (Own.lit .u8 5 w w.heap.size (two x) _ 2 rfl rfl (Nat.le_refl _) (by simp [two, maxLen]) (two_wf x))
  go_enter Try.func64, Try.ntmps64
  go_wp2
  go_ret
  exact ⟨_, rfl, HO.out, (Only.refl [] w).alloc _⟩
theorem four1 (w : World) (x : Int) :
    Calls Try.prog 32 #[.int .u32 x] w fun e w' => ∃ g, e = .returned (.slice (some ⟨g, 0, none⟩) 4 4) ∧ Own .u8 5 w' w.heap.size (.slice (some ⟨g, 0, none⟩) 4 4) (four x) ∧ Only [] w w' := by
  have HO : Hid (Own .u8 5 (w.alloc (.cells #[.int .u8 (x / 16777216 % 256), .int .u8 (x / 65536 % 256), .int .u8 (x / 256 % 256), .int .u8 (x % 256)] 5)) w.heap.size (.slice (some ⟨w.heap.size, 0, none⟩) 4 4) (four x)) := hid (Own.lit .u8 5 w w.heap.size (four x) _ 4 rfl rfl (Nat.le_refl _) (by simp [four, maxLen]) (four_wf x))
  go_enter Try.func32, Try.ntmps32
  go_wp2
  go_ret
  exact ⟨_, rfl, HO.out, (Only.refl [] w).alloc _⟩
theorem get21 (w : World) (A : Option Addr) (n c : Nat) (l : List Int) (hl : Rd .u8 w A n l) (i : Nat) (hi : i + 1 < n) (hn : n ≤ 140737488355328) :
    Calls Try.prog 49 #[.slice A n c, .int .i64 i] w fun e w' => e = .returned (.int .i64 (get2 l i)) ∧ ∃ m, w' = w.drewN m := by
  obtain ⟨b, off, rfl, hb, hc⟩ := hl.at_ (by omega)
  have q0 := hc i (by omega)
  have q1 := hc (i + 1) (by omega)
  have w0 := u8Bd (hl.getD_wf i (by omega))
  have w1 := u8Bd (hl.getD_wf (i + 1) (by omega))
  have HG : Hid (get2 l i = l.getD i 0 * 256 + l.getD (i + 1) 0) := hid rfl
  clear hc hl
  generalize l.getD i 0 = x at *
  generalize l.getD (i + 1) 0 = y at *
  have hj : bits .or .i64 (x * 256) y = x * 256 + y := i64_or_mul x y 8 256 (by decide) (by omega) (by omega) (by omega) (by omega)
  have hs : IntKind.i64.wrap ((i : Int) + 1) = (i : Int) + 1 := i64_in _ (by omega)
  have ht : ((i : Int) + 1).toNat = i + 1 := by omega
  have hp : 0 ≤ (i : Int) + 1 := by omega
  go_enter Try.func49, Try.ntmps49
  go_wp2
  go_quiet (fail)
  go_wp2
  go_ret
  exact ⟨rInt HG.out.symm, _, rfl⟩
set_option maxHeartbeats 1000000 in
theorem get41 (w : World) (A : Option Addr) (n c : Nat) (l : List Int) (hl : Rd .u8 w A n l) (i : Nat) (hi : i + 3 < n) (hn : n ≤ 140737488355328) :
    Calls Try.prog 41 #[.slice A n c, .int .i64 i] w fun e w' => e = .returned (.int .u32 (get4 l i)) ∧ ∃ m, w' = w.drewN m := by
  obtain ⟨b, off, rfl, hb, hc⟩ := hl.at_ (by omega)
  have q0 := hc i (by omega)
  have q1 := hc (i + 1) (by omega)
  have q2 := hc (i + 2) (by omega)
  have q3 := hc (i + 3) (by omega)
  have w0 := u8Bd (hl.getD_wf i (by omega))
  have w1 := u8Bd (hl.getD_wf (i + 1) (by omega))
  have w2 := u8Bd (hl.getD_wf (i + 2) (by omega))
  have w3 := u8Bd (hl.getD_wf (i + 3) (by omega))
  have HG : Hid (get4 l i = l.getD i 0 * 16777216 + l.getD (i + 1) 0 * 65536 + l.getD (i + 2) 0 * 256 + l.getD (i + 3) 0) := hid rfl
  clear hc hl
  generalize l.getD i 0 = x at *
  generalize l.getD (i + 1) 0 = y at *
  generalize l.getD (i + 2) 0 = z at *
  generalize l.getD (i + 3) 0 = u at *
  have J := hid (or_get4 x y z u w0 w1 w2 w3)
  have hs1 : IntKind.i64.wrap ((i : Int) + 1) = (i : Int) + 1 := i64_in _ (by omega)
  have hs2 : IntKind.i64.wrap ((i : Int) + 2) = (i : Int) + 2 := i64_in _ (by omega)
  have hs3 : IntKind.i64.wrap ((i : Int) + 3) = (i : Int) + 3 := i64_in _ (by omega)
  have ht1 : ((i : Int) + 1).toNat = i + 1 := by omega
  have ht2 : ((i : Int) + 2).toNat = i + 2 := by omega
  have ht3 : ((i : Int) + 3).toNat = i + 3 := by omega
  have hp1 : 0 ≤ (i : Int) + 1 := by omega
  have hp2 : 0 ≤ (i : Int) + 2 := by omega
  have hp3 : 0 ≤ (i : Int) + 3 := by omega
  go_enter Try.func41, Try.ntmps41
  go_wp2
  go_quiet (fail)
  go_wp2
  go_ret
  exact ⟨rInt (J.out.trans HG.out.symm), _, rfl⟩
end Go.Proofs.Ytekanilgeigddaa.ref
