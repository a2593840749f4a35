/-
  Chapter 6 (ipv4): what is refused ahead of a header's fields, by a walk of the text. Conditions: none but those typed.
-/
import Derived.Test.YtaoeflngdlgboaaDoorIpE
namespace Go.Proofs.YtaoeflngdlgboaaDoor.ip
set_option linter.unusedVariables false
set_option linter.unusedSimpArgs false
open Go.ChangeShapes Go.WideShapes Go.ChangeAt Go.RowKit Go.IntWalk Go.Lib
/-- A header's length and a packet's, as bytes say them. -/
def hd (l : List Int) : Int := l.getD 0 0 % 16 * 4
def tot (l : List Int) : Int := l.getD 2 0 * 256 + l.getD 3 0
/-- Why bytes are refused ahead of a header's fields; 0: they are not. -/
def early (l : List Int) : Int :=
  if l.length < 20 then 2 else if l.getD 0 0 / 16 ≠ 4 then 3 else if hd l < 20 then 3 else if (l.length : Int) < hd l then 2 else if tot l < hd l then 3 else if (l.length : Int) < tot l then 2 else if oct.sumF (l.take (hd l).toNat) ≠ 0 then 4 else 0
theorem setCell_drewN (w : World) (n : Nat) (a : Addr) (v : Value) : (w.drewN n).setCell a v = (w.setCell a v).drewN n := rfl
theorem u8_and15 (x : Int) (h : 0 ≤ x ∧ x ≤ 255) : bits .and .u8 x 15 = x % 16 := by
  obtain ⟨n, rfl⟩ := Int.eq_ofNat_of_zero_le h.1
  have key : ∀ m : Fin 256, bits .and .u8 (m.val : Int) 15 = (m.val : Int) % 16 := by decide +kernel
  exact key ⟨n, by omega⟩
set_option maxRecDepth 100000 in
set_option maxHeartbeats 250000 in
theorem dE1 (w : World) (A : Option Addr) (n c : Nat) (h : n < 20) : Calls Tryd.prog 18 #[.slice A n c] w fun x w' => x = .returned (.tuple #[.agg #[.int .i64 0, .int .i64 0, .bool false, .bool false, .int .i64 0, .int .i64 0, .int .i64 0, .int .u32 0, .int .u32 0, .slice none 0 0, .slice none 0 0], .int .i64 2]) ∧ Only [] w w' := by
  have QB : Hid (Only [] w (w.alloc (.cells #[.int .i64 0, .int .i64 0, .bool false, .bool false, .int .i64 0, .int .i64 0, .int .i64 0, .int .u32 0, .int .u32 0, .slice none 0 0, .slice none 0 0] 26))) := hid ((Only.refl [] w).alloc _)
  have d1 : decide ((n : Int) < 20) = true := decide_eq_true (by omega)
  go_enter Tryd.func18, Tryd.ntmps18
  go_wp2
  exact bodyPost_ret (v := .tuple #[.agg #[.int .i64 0, .int .i64 0, .bool false, .bool false, .int .i64 0, .int .i64 0, .int .i64 0, .int .u32 0, .int .u32 0, .slice none 0 0, .slice none 0 0], .int .i64 2]) (by simp [results, Tryd.results18, go_sem]) rfl ⟨rfl, QB.out⟩
set_option maxRecDepth 100000 in
set_option maxHeartbeats 250000 in
theorem dE2 (w : World) (b off n c : Nat) (x0 x2 x3 p : Int) (q : Int) (h20 : 20 ≤ n) (hn : n ≤ 200000) (c0 : (w.alloc (.cells #[.int .i64 0, .int .i64 0, .bool false, .bool false, .int .i64 0, .int .i64 0, .int .i64 0, .int .u32 0, .int .u32 0, .slice none 0 0, .slice none 0 0] 26)).cell? ⟨b, off, none⟩ = some (.int .u8 x0)) (c2 : (w.alloc (.cells #[.int .i64 0, .int .i64 0, .bool false, .bool false, .int .i64 0, .int .i64 0, .int .i64 0, .int .u32 0, .int .u32 0, .slice none 0 0, .slice none 0 0] 26)).cell? ⟨b, off + 2, none⟩ = some (.int .u8 x2)) (c3 : (w.alloc (.cells #[.int .i64 0, .int .i64 0, .bool false, .bool false, .int .i64 0, .int .i64 0, .int .i64 0, .int .u32 0, .int .u32 0, .slice none 0 0, .slice none 0 0] 26)).cell? ⟨b, off + 3, none⟩ = some (.int .u8 x3)) (w0 : 0 ≤ x0 ∧ x0 ≤ 255) (w2 : 0 ≤ x2 ∧ x2 ≤ 255) (w3 : 0 ≤ x3 ∧ x3 ≤ 255) (hp : x0 / 16 = p) (hq : bits .and .u8 x0 15 = q) (q0 : 0 ≤ q) (q1 : q ≤ 15) (hne : p ≠ 4) :
    Calls Tryd.prog 18 #[.slice (some ⟨b, off, none⟩) n c] w fun x w' => x = .returned (.tuple #[.agg #[.int .i64 0, .int .i64 0, .bool false, .bool false, .int .i64 0, .int .i64 0, .int .i64 0, .int .u32 0, .int .u32 0, .slice none 0 0, .slice none 0 0], .int .i64 3]) ∧ Only [] w w' := by
  have QB : Hid (Only [] w (w.alloc (.cells #[.int .i64 0, .int .i64 0, .bool false, .bool false, .int .i64 0, .int .i64 0, .int .i64 0, .int .u32 0, .int .u32 0, .slice none 0 0, .slice none 0 0] 26))) := hid ((Only.refl [] w).alloc _)
  have d1 : decide ((n : Int) < 20) = false := decide_eq_false (by omega)
  have i0 : (0 : Int) < n := by omega
  have i2 : (2 : Int) < n := by omega
  have i3 : (3 : Int) < n := by omega
  have d2 : (p != 4) = true := by simpa using hne
  clear hne
  go_enter Tryd.func18, Tryd.ntmps18
  go_wp2
  exact bodyPost_ret (v := .tuple #[.agg #[.int .i64 0, .int .i64 0, .bool false, .bool false, .int .i64 0, .int .i64 0, .int .i64 0, .int .u32 0, .int .u32 0, .slice none 0 0, .slice none 0 0], .int .i64 3]) (by simp [results, Tryd.results18, go_sem]) rfl ⟨rfl, QB.out⟩
set_option maxRecDepth 100000 in
set_option maxHeartbeats 250000 in
theorem dE3 (w : World) (b off n c : Nat) (x0 x2 x3 p : Int) (q : Int) (h20 : 20 ≤ n) (hn : n ≤ 200000) (c0 : (w.alloc (.cells #[.int .i64 0, .int .i64 0, .bool false, .bool false, .int .i64 0, .int .i64 0, .int .i64 0, .int .u32 0, .int .u32 0, .slice none 0 0, .slice none 0 0] 26)).cell? ⟨b, off, none⟩ = some (.int .u8 x0)) (c2 : (w.alloc (.cells #[.int .i64 0, .int .i64 0, .bool false, .bool false, .int .i64 0, .int .i64 0, .int .i64 0, .int .u32 0, .int .u32 0, .slice none 0 0, .slice none 0 0] 26)).cell? ⟨b, off + 2, none⟩ = some (.int .u8 x2)) (c3 : (w.alloc (.cells #[.int .i64 0, .int .i64 0, .bool false, .bool false, .int .i64 0, .int .i64 0, .int .i64 0, .int .u32 0, .int .u32 0, .slice none 0 0, .slice none 0 0] 26)).cell? ⟨b, off + 3, none⟩ = some (.int .u8 x3)) (w0 : 0 ≤ x0 ∧ x0 ≤ 255) (w2 : 0 ≤ x2 ∧ x2 ≤ 255) (w3 : 0 ≤ x3 ∧ x3 ≤ 255) (hp : x0 / 16 = p) (hq : bits .and .u8 x0 15 = q) (q0 : 0 ≤ q) (q1 : q ≤ 15) (hp4 : p = 4) (h3 : q * 4 < 20) :
    Calls Tryd.prog 18 #[.slice (some ⟨b, off, none⟩) n c] w fun x w' => x = .returned (.tuple #[.agg #[.int .i64 0, .int .i64 0, .bool false, .bool false, .int .i64 0, .int .i64 0, .int .i64 0, .int .u32 0, .int .u32 0, .slice none 0 0, .slice none 0 0], .int .i64 3]) ∧ Only [] w w' := by
  have QB : Hid (Only [] w (w.alloc (.cells #[.int .i64 0, .int .i64 0, .bool false, .bool false, .int .i64 0, .int .i64 0, .int .i64 0, .int .u32 0, .int .u32 0, .slice none 0 0, .slice none 0 0] 26))) := hid ((Only.refl [] w).alloc _)
  have d1 : decide ((n : Int) < 20) = false := decide_eq_false (by omega)
  have i0 : (0 : Int) < n := by omega
  have i2 : (2 : Int) < n := by omega
  have i3 : (3 : Int) < n := by omega
  have d2 : (p != 4) = false := by simpa using hp4
  have d3 : decide (q * 4 < 20) = true := decide_eq_true h3
  clear hp4 h3
  go_enter Tryd.func18, Tryd.ntmps18
  go_wp2
  exact bodyPost_ret (v := .tuple #[.agg #[.int .i64 0, .int .i64 0, .bool false, .bool false, .int .i64 0, .int .i64 0, .int .i64 0, .int .u32 0, .int .u32 0, .slice none 0 0, .slice none 0 0], .int .i64 3]) (by simp [results, Tryd.results18, go_sem]) rfl ⟨rfl, QB.out⟩
set_option maxRecDepth 100000 in
set_option maxHeartbeats 250000 in
theorem dE4 (w : World) (b off n c : Nat) (x0 x2 x3 p : Int) (q : Int) (h20 : 20 ≤ n) (hn : n ≤ 200000) (c0 : (w.alloc (.cells #[.int .i64 0, .int .i64 0, .bool false, .bool false, .int .i64 0, .int .i64 0, .int .i64 0, .int .u32 0, .int .u32 0, .slice none 0 0, .slice none 0 0] 26)).cell? ⟨b, off, none⟩ = some (.int .u8 x0)) (c2 : (w.alloc (.cells #[.int .i64 0, .int .i64 0, .bool false, .bool false, .int .i64 0, .int .i64 0, .int .i64 0, .int .u32 0, .int .u32 0, .slice none 0 0, .slice none 0 0] 26)).cell? ⟨b, off + 2, none⟩ = some (.int .u8 x2)) (c3 : (w.alloc (.cells #[.int .i64 0, .int .i64 0, .bool false, .bool false, .int .i64 0, .int .i64 0, .int .i64 0, .int .u32 0, .int .u32 0, .slice none 0 0, .slice none 0 0] 26)).cell? ⟨b, off + 3, none⟩ = some (.int .u8 x3)) (w0 : 0 ≤ x0 ∧ x0 ≤ 255) (w2 : 0 ≤ x2 ∧ x2 ≤ 255) (w3 : 0 ≤ x3 ∧ x3 ≤ 255) (hp : x0 / 16 = p) (hq : bits .and .u8 x0 15 = q) (q0 : 0 ≤ q) (q1 : q ≤ 15) (hp4 : p = 4) (h3 : 20 ≤ q * 4) (h4 : (n : Int) < q * 4) :
    Calls Tryd.prog 18 #[.slice (some ⟨b, off, none⟩) n c] w fun x w' => x = .returned (.tuple #[.agg #[.int .i64 0, .int .i64 0, .bool false, .bool false, .int .i64 0, .int .i64 0, .int .i64 0, .int .u32 0, .int .u32 0, .slice none 0 0, .slice none 0 0], .int .i64 2]) ∧ Only [] w w' := by
  have QB : Hid (Only [] w (w.alloc (.cells #[.int .i64 0, .int .i64 0, .bool false, .bool false, .int .i64 0, .int .i64 0, .int .i64 0, .int .u32 0, .int .u32 0, .slice none 0 0, .slice none 0 0] 26))) := hid ((Only.refl [] w).alloc _)
  have d1 : decide ((n : Int) < 20) = false := decide_eq_false (by omega)
  have i0 : (0 : Int) < n := by omega
  have i2 : (2 : Int) < n := by omega
  have i3 : (3 : Int) < n := by omega
  have d2 : (p != 4) = false := by simpa using hp4
  have d3 : decide (q * 4 < 20) = false := decide_eq_false (by omega)
  have d4 : decide ((n : Int) < q * 4) = true := decide_eq_true h4
  clear hp4
  go_enter Tryd.func18, Tryd.ntmps18
  go_wp2
  exact bodyPost_ret (v := .tuple #[.agg #[.int .i64 0, .int .i64 0, .bool false, .bool false, .int .i64 0, .int .i64 0, .int .i64 0, .int .u32 0, .int .u32 0, .slice none 0 0, .slice none 0 0], .int .i64 2]) (by simp [results, Tryd.results18, go_sem]) rfl ⟨rfl, QB.out⟩
set_option maxRecDepth 100000 in
set_option maxHeartbeats 250000 in
theorem dE5 (w : World) (b off n c : Nat) (x0 x2 x3 p : Int) (q : Int) (h20 : 20 ≤ n) (hn : n ≤ 200000) (c0 : (w.alloc (.cells #[.int .i64 0, .int .i64 0, .bool false, .bool false, .int .i64 0, .int .i64 0, .int .i64 0, .int .u32 0, .int .u32 0, .slice none 0 0, .slice none 0 0] 26)).cell? ⟨b, off, none⟩ = some (.int .u8 x0)) (c2 : (w.alloc (.cells #[.int .i64 0, .int .i64 0, .bool false, .bool false, .int .i64 0, .int .i64 0, .int .i64 0, .int .u32 0, .int .u32 0, .slice none 0 0, .slice none 0 0] 26)).cell? ⟨b, off + 2, none⟩ = some (.int .u8 x2)) (c3 : (w.alloc (.cells #[.int .i64 0, .int .i64 0, .bool false, .bool false, .int .i64 0, .int .i64 0, .int .i64 0, .int .u32 0, .int .u32 0, .slice none 0 0, .slice none 0 0] 26)).cell? ⟨b, off + 3, none⟩ = some (.int .u8 x3)) (w0 : 0 ≤ x0 ∧ x0 ≤ 255) (w2 : 0 ≤ x2 ∧ x2 ≤ 255) (w3 : 0 ≤ x3 ∧ x3 ≤ 255) (hp : x0 / 16 = p) (hq : bits .and .u8 x0 15 = q) (q0 : 0 ≤ q) (q1 : q ≤ 15) (hp4 : p = 4) (h3 : 20 ≤ q * 4) (h4 : q * 4 ≤ n) (h5 : x2 * 256 + x3 < q * 4) :
    Calls Tryd.prog 18 #[.slice (some ⟨b, off, none⟩) n c] w fun x w' => x = .returned (.tuple #[.agg #[.int .i64 0, .int .i64 0, .bool false, .bool false, .int .i64 0, .int .i64 0, .int .i64 0, .int .u32 0, .int .u32 0, .slice none 0 0, .slice none 0 0], .int .i64 3]) ∧ Only [] w w' := by
  have QB : Hid (Only [] w (w.alloc (.cells #[.int .i64 0, .int .i64 0, .bool false, .bool false, .int .i64 0, .int .i64 0, .int .i64 0, .int .u32 0, .int .u32 0, .slice none 0 0, .slice none 0 0] 26))) := hid ((Only.refl [] w).alloc _)
  have d1 : decide ((n : Int) < 20) = false := decide_eq_false (by omega)
  have i0 : (0 : Int) < n := by omega
  have i2 : (2 : Int) < n := by omega
  have i3 : (3 : Int) < n := by omega
  have d2 : (p != 4) = false := by simpa using hp4
  have d3 : decide (q * 4 < 20) = false := decide_eq_false (by omega)
  have d4 : decide ((n : Int) < q * 4) = false := decide_eq_false (by omega)
  have orr : bits .or .i64 (x2 * 256) x3 = x2 * 256 + x3 := i64_or_mul _ _ 8 256 rfl (by omega) (by omega) (by omega) (by omega)
  have d5 : decide (x2 * 256 + x3 < q * 4) = true := decide_eq_true h5
  clear hp4
  go_enter Tryd.func18, Tryd.ntmps18
  go_wp2_with fail
  go_quiet (fail)
  go_wp2
  simp only [setCell_drewN]
  refine bodyPost_ret (v := .tuple #[.agg #[.int .i64 0, .int .i64 0, .bool false, .bool false, .int .i64 0, .int .i64 0, .int .i64 0, .int .u32 0, .int .u32 0, .slice none 0 0, .slice none 0 0], .int .i64 3]) ?_ rfl ⟨rfl, ?_⟩
  · simp [results, Tryd.results18, go_sem]
  · repeat' (first | with_reducible exact QB.out | with_reducible refine Only.drewN ?_ _ | with_reducible refine Only.setCell ?_ ?_ _)
    all_goals exact Or.inr (Nat.le_refl _)
set_option maxRecDepth 100000 in
set_option maxHeartbeats 250000 in
theorem dE6 (w : World) (b off n c : Nat) (x0 x2 x3 p : Int) (q : Int) (h20 : 20 ≤ n) (hn : n ≤ 200000) (c0 : (w.alloc (.cells #[.int .i64 0, .int .i64 0, .bool false, .bool false, .int .i64 0, .int .i64 0, .int .i64 0, .int .u32 0, .int .u32 0, .slice none 0 0, .slice none 0 0] 26)).cell? ⟨b, off, none⟩ = some (.int .u8 x0)) (c2 : (w.alloc (.cells #[.int .i64 0, .int .i64 0, .bool false, .bool false, .int .i64 0, .int .i64 0, .int .i64 0, .int .u32 0, .int .u32 0, .slice none 0 0, .slice none 0 0] 26)).cell? ⟨b, off + 2, none⟩ = some (.int .u8 x2)) (c3 : (w.alloc (.cells #[.int .i64 0, .int .i64 0, .bool false, .bool false, .int .i64 0, .int .i64 0, .int .i64 0, .int .u32 0, .int .u32 0, .slice none 0 0, .slice none 0 0] 26)).cell? ⟨b, off + 3, none⟩ = some (.int .u8 x3)) (w0 : 0 ≤ x0 ∧ x0 ≤ 255) (w2 : 0 ≤ x2 ∧ x2 ≤ 255) (w3 : 0 ≤ x3 ∧ x3 ≤ 255) (hp : x0 / 16 = p) (hq : bits .and .u8 x0 15 = q) (q0 : 0 ≤ q) (q1 : q ≤ 15) (hp4 : p = 4) (h3 : 20 ≤ q * 4) (h4 : q * 4 ≤ n) (h5 : q * 4 ≤ x2 * 256 + x3) (h6 : (n : Int) < x2 * 256 + x3) :
    Calls Tryd.prog 18 #[.slice (some ⟨b, off, none⟩) n c] w fun x w' => x = .returned (.tuple #[.agg #[.int .i64 0, .int .i64 0, .bool false, .bool false, .int .i64 0, .int .i64 0, .int .i64 0, .int .u32 0, .int .u32 0, .slice none 0 0, .slice none 0 0], .int .i64 2]) ∧ Only [] w w' := by
  have QB : Hid (Only [] w (w.alloc (.cells #[.int .i64 0, .int .i64 0, .bool false, .bool false, .int .i64 0, .int .i64 0, .int .i64 0, .int .u32 0, .int .u32 0, .slice none 0 0, .slice none 0 0] 26))) := hid ((Only.refl [] w).alloc _)
  have d1 : decide ((n : Int) < 20) = false := decide_eq_false (by omega)
  have i0 : (0 : Int) < n := by omega
  have i2 : (2 : Int) < n := by omega
  have i3 : (3 : Int) < n := by omega
  have d2 : (p != 4) = false := by simpa using hp4
  have d3 : decide (q * 4 < 20) = false := decide_eq_false (by omega)
  have d4 : decide ((n : Int) < q * 4) = false := decide_eq_false (by omega)
  have orr : bits .or .i64 (x2 * 256) x3 = x2 * 256 + x3 := i64_or_mul _ _ 8 256 rfl (by omega) (by omega) (by omega) (by omega)
  have d5 : decide (x2 * 256 + x3 < q * 4) = false := decide_eq_false (by omega)
  have d6 : decide ((n : Int) < x2 * 256 + x3) = true := decide_eq_true h6
  clear hp4
  go_enter Tryd.func18, Tryd.ntmps18
  go_wp2_with fail
  go_quiet (fail)
  go_wp2
  simp only [setCell_drewN]
  refine bodyPost_ret (v := .tuple #[.agg #[.int .i64 0, .int .i64 0, .bool false, .bool false, .int .i64 0, .int .i64 0, .int .i64 0, .int .u32 0, .int .u32 0, .slice none 0 0, .slice none 0 0], .int .i64 2]) ?_ rfl ⟨rfl, ?_⟩
  · simp [results, Tryd.results18, go_sem]
  · repeat' (first | with_reducible exact QB.out | with_reducible refine Only.drewN ?_ _ | with_reducible refine Only.setCell ?_ ?_ _)
    all_goals exact Or.inr (Nat.le_refl _)
set_option maxRecDepth 100000 in
set_option maxHeartbeats 250000 in
theorem dE7 (w : World) (b off n c : Nat) (x0 x2 x3 p : Int) (q : Int) (h20 : 20 ≤ n) (hn : n ≤ 200000) (c0 : (w.alloc (.cells #[.int .i64 0, .int .i64 0, .bool false, .bool false, .int .i64 0, .int .i64 0, .int .i64 0, .int .u32 0, .int .u32 0, .slice none 0 0, .slice none 0 0] 26)).cell? ⟨b, off, none⟩ = some (.int .u8 x0)) (c2 : (w.alloc (.cells #[.int .i64 0, .int .i64 0, .bool false, .bool false, .int .i64 0, .int .i64 0, .int .i64 0, .int .u32 0, .int .u32 0, .slice none 0 0, .slice none 0 0] 26)).cell? ⟨b, off + 2, none⟩ = some (.int .u8 x2)) (c3 : (w.alloc (.cells #[.int .i64 0, .int .i64 0, .bool false, .bool false, .int .i64 0, .int .i64 0, .int .i64 0, .int .u32 0, .int .u32 0, .slice none 0 0, .slice none 0 0] 26)).cell? ⟨b, off + 3, none⟩ = some (.int .u8 x3)) (w0 : 0 ≤ x0 ∧ x0 ≤ 255) (w2 : 0 ≤ x2 ∧ x2 ≤ 255) (w3 : 0 ≤ x3 ∧ x3 ≤ 255) (hp : x0 / 16 = p) (hq : bits .and .u8 x0 15 = q) (q0 : 0 ≤ q) (q1 : q ≤ 15) (hp4 : p = 4) (h3 : 20 ≤ q * 4) (h4 : q * 4 ≤ n) (h5 : q * 4 ≤ x2 * 256 + x3) (h6 : x2 * 256 + x3 ≤ n) (hnc : n ≤ c) (hh : Nat) (HH : Hid ((hh : Int) = q * 4)) (l : List Int) (HS : Hid (oct.sumF l ≠ 0)) (HR : Hid (Rd .u8 (w.alloc (.cells #[.int .i64 0, .int .i64 0, .bool false, .bool false, .int .i64 0, .int .i64 0, .int .i64 0, .int .u32 0, .int .u32 0, .slice none 0 0, .slice none 0 0] 26)) (some ⟨b, off, none⟩) hh l)) :
    Calls Tryd.prog 18 #[.slice (some ⟨b, off, none⟩) n c] w fun x w' => x = .returned (.tuple #[.agg #[.int .i64 0, .int .i64 0, .bool false, .bool false, .int .i64 0, .int .i64 0, .int .i64 0, .int .u32 0, .int .u32 0, .slice none 0 0, .slice none 0 0], .int .i64 4]) ∧ Only [] w w' := by
  have QB : Hid (Only [] w (w.alloc (.cells #[.int .i64 0, .int .i64 0, .bool false, .bool false, .int .i64 0, .int .i64 0, .int .i64 0, .int .u32 0, .int .u32 0, .slice none 0 0, .slice none 0 0] 26))) := hid ((Only.refl [] w).alloc _)
  have d1 : decide ((n : Int) < 20) = false := decide_eq_false (by omega)
  have i0 : (0 : Int) < n := by omega
  have i2 : (2 : Int) < n := by omega
  have i3 : (3 : Int) < n := by omega
  have d2 : (p != 4) = false := by simpa using hp4
  have d3 : decide (q * 4 < 20) = false := decide_eq_false (by omega)
  have d4 : decide ((n : Int) < q * 4) = false := decide_eq_false (by omega)
  have orr : bits .or .i64 (x2 * 256) x3 = x2 * 256 + x3 := i64_or_mul _ _ 8 256 rfl (by omega) (by omega) (by omega) (by omega)
  have d5 : decide (x2 * 256 + x3 < q * 4) = false := decide_eq_false (by omega)
  have d6 : decide ((n : Int) < x2 * 256 + x3) = false := decide_eq_false (by omega)
  have hqc : q * 4 ≤ (c : Int) := by omega
  have hq0 : (0 : Int) ≤ q * 4 := by omega
  clear hp4
  go_enter Tryd.func18, Tryd.ntmps18
  go_wp2_with fail
  go_quiet (fail)
  go_wp2_with fail
  rw [show (q * 4).toNat = hh from by have := HH.out; omega]
  refine (oct.sum1 _ (some ⟨b, off, none⟩) hh c l (HR.out.drewN _) (by have := HH.out; omega)).mono ?_
  rintro x w6 ⟨rfl, q6, rfl⟩
  have ds : (oct.sumF l != 0) = true := by simpa using HS.out
  go_wp2
  simp only [setCell_drewN]
  refine bodyPost_ret (v := .tuple #[.agg #[.int .i64 0, .int .i64 0, .bool false, .bool false, .int .i64 0, .int .i64 0, .int .i64 0, .int .u32 0, .int .u32 0, .slice none 0 0, .slice none 0 0], .int .i64 4]) ?_ rfl ⟨rfl, ?_⟩
  · simp [results, Tryd.results18, go_sem]
  · repeat' (first | with_reducible exact QB.out | with_reducible refine Only.drewN ?_ _ | with_reducible refine Only.setCell ?_ ?_ _)
    all_goals exact Or.inr (Nat.le_refl _)
theorem decEarly (w : World) (A : Option Addr) (n c : Nat) (l : List Int) (hl : Rd .u8 w A n l) (hnc : n ≤ c) (hcm : c ≤ maxLen) (hn : n ≤ 200000) (hne : early l ≠ 0) :
    Calls Tryd.prog 18 #[.slice A n c] w fun x w' => x = .returned (.tuple #[.agg #[.int .i64 0, .int .i64 0, .bool false, .bool false, .int .i64 0, .int .i64 0, .int .i64 0, .int .u32 0, .int .u32 0, .slice none 0 0, .slice none 0 0], .int .i64 (early l)]) ∧ Only [] w w' := by
  have hll := hl.len
  by_cases a1 : n < 20
  · rw [show early l = 2 from by unfold early; rw [if_pos (by omega)]]
    exact dE1 w A n c a1
  · obtain ⟨b, off, rfl, hb, hc⟩ := (hl.alloc (.cells #[.int .i64 0, .int .i64 0, .bool false, .bool false, .int .i64 0, .int .i64 0, .int .i64 0, .int .u32 0, .int .u32 0, .slice none 0 0, .slice none 0 0] 26)).at_ (by omega)
    have c0 := hc 0 (by omega); rw [Nat.add_zero] at c0
    have c2 := hc 2 (by omega); have c3 := hc 3 (by omega)
    have w0 := u8Bd (hl.getD_wf 0 (by omega)); have w2 := u8Bd (hl.getD_wf 2 (by omega)); have w3 := u8Bd (hl.getD_wf 3 (by omega))
    have hq := u8_and15 (l.getD 0 0) w0
    have e0 : early l = if l.getD 0 0 / 16 ≠ 4 then 3 else if hd l < 20 then 3 else if (l.length : Int) < hd l then 2 else if tot l < hd l then 3 else if (l.length : Int) < tot l then 2 else if oct.sumF (l.take (hd l).toNat) ≠ 0 then 4 else 0 := by unfold early; rw [if_neg (by omega)]
    have eh : hd l = l.getD 0 0 % 16 * 4 := rfl
    have et : tot l = l.getD 2 0 * 256 + l.getD 3 0 := rfl
    by_cases a2 : l.getD 0 0 / 16 = 4
    · by_cases a3 : hd l < 20
      · rw [show early l = 3 from by rw [e0, if_neg (by omega), if_pos a3]]
        exact dE3 w b off n c _ _ _ _ _ (by omega) hn c0 c2 c3 w0 w2 w3 rfl hq (by omega) (by omega) a2 (by omega)
      · by_cases a4 : (l.length : Int) < hd l
        · rw [show early l = 2 from by rw [e0, if_neg (by omega), if_neg a3, if_pos a4]]
          exact dE4 w b off n c _ _ _ _ _ (by omega) hn c0 c2 c3 w0 w2 w3 rfl hq (by omega) (by omega) a2 (by omega) (by omega)
        · by_cases a5 : tot l < hd l
          · rw [show early l = 3 from by rw [e0, if_neg (by omega), if_neg a3, if_neg a4, if_pos a5]]
            exact dE5 w b off n c _ _ _ _ _ (by omega) hn c0 c2 c3 w0 w2 w3 rfl hq (by omega) (by omega) a2 (by omega) (by omega) (by omega)
          · by_cases a6 : (l.length : Int) < tot l
            · rw [show early l = 2 from by rw [e0, if_neg (by omega), if_neg a3, if_neg a4, if_neg a5, if_pos a6]]
              exact dE6 w b off n c _ _ _ _ _ (by omega) hn c0 c2 c3 w0 w2 w3 rfl hq (by omega) (by omega) a2 (by omega) (by omega) (by omega) (by omega)
            · by_cases a7 : oct.sumF (l.take (hd l).toNat) ≠ 0
              · rw [show early l = 4 from by rw [e0, if_neg (by omega), if_neg a3, if_neg a4, if_neg a5, if_neg a6, if_pos a7]]
                exact dE7 w b off n c _ _ _ _ _ (by omega) hn c0 c2 c3 w0 w2 w3 rfl hq (by omega) (by omega) a2 (by omega) (by omega) (by omega) (by omega) hnc (hd l).toNat (hid (by omega)) (l.take (hd l).toNat) (hid a7) (hid ((hl.alloc (.cells #[.int .i64 0, .int .i64 0, .bool false, .bool false, .int .i64 0, .int .i64 0, .int .i64 0, .int .u32 0, .int .u32 0, .slice none 0 0, .slice none 0 0] 26)).take _ (by omega)))
              · exfalso; apply hne; rw [e0, if_neg (by omega), if_neg a3, if_neg a4, if_neg a5, if_neg a6, if_neg a7]
    · rw [show early l = 3 from by rw [e0, if_pos a2]]
      exact dE2 w b off n c _ _ _ _ _ (by omega) hn c0 c2 c3 w0 w2 w3 rfl hq (by omega) (by omega) a2
end Go.Proofs.YtaoeflngdlgboaaDoor.ip
