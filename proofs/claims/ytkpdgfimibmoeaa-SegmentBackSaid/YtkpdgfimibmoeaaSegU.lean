/-
  Chapter 14 (segment): the options that Encode writes are read again, by a walk of its text. Conditions: none but those typed.
-/
import Derived.Test.YtkpdgfimibmoeaaSegE
namespace Go.Proofs.Ytkpdgfimibmoeaa.seg
set_option linter.unusedVariables false
set_option linter.unusedSimpArgs false
open Go.ChangeShapes Go.WideShapes Go.ChangeAt Go.RowKit Go.IntWalk Go.Lib
set_option maxRecDepth 100000 in
set_option maxHeartbeats 4000000 in
theorem readM (w : World) (A : Option Addr) (c : Nat) (a b : Int) (hl : Rd .u8 w A 4 [2, 4, a, b]) (hcap : 4 ≤ c) (ha : 0 ≤ a ∧ a ≤ 255) (hb : 0 ≤ b ∧ b ≤ 255) :
    Calls Try.prog 33 #[.slice A 4 c] w fun x w' => x = .returned (.tuple #[.int .i64 (a * 256 + b), .int .i64 (-1), .bool true]) ∧ ∃ q, w' = w.drewN q := by
  obtain ⟨bk, off, rfl, hbk, hc⟩ := hl.at_ (by omega)
  have hor : bits .or .i64 (a * 256) b = a * 256 + b := i64_or_mul a b 8 256 rfl ha.1 hb.1 (by omega) (by omega)
  skip
  have c0 : w.cell? ⟨bk, off, none⟩ = some (.int .u8 2) := hc 0 (by omega)
  have c1 : w.cell? ⟨bk, off + 1, none⟩ = some (.int .u8 4) := hc 1 (by omega)
  have c2 : w.cell? ⟨bk, off + 2, none⟩ = some (.int .u8 a) := hc 2 (by omega)
  have c3 : w.cell? ⟨bk, off + 3, none⟩ = some (.int .u8 b) := hc 3 (by omega)
  clear hl hc
  go_enter Try.func33, Try.ntmps33
  go_wp2
  go_step3
  go_wp2
  go_step3
  go_wp2
  go_loopw [2, 3, 5] (fun m s' i wr => (i = .int .i64 0 ∧ m = .int .i64 (0) ∧ s' = .int .i64 (-1) ∧ ∃ q, wr = w.drewN q) ∨ (i = .int .i64 4 ∧ m = .int .i64 (a * 256 + b) ∧ s' = .int .i64 (-1) ∧ ∃ q, wr = w.drewN q)) (fun _ _ i _ => 4 - (intOf i).toNat)
  case atStart => exact .inl ⟨rfl, rfl, rfl, 0, rfl⟩
  case round =>
    rcases hrel with ⟨rfl, rfl, rfl, q, rfl⟩ | ⟨rfl, rfl, rfl, q, rfl⟩
    · go_wp2
      go_quiet (fail)
      go_wp2
      go_roundw
      case rel => exact .inr (⟨rfl, rfl, rfl, _, rfl⟩)
      case measure => simp [intOf]
    · go_wp2
      rw [Exit.noGoto_ret]
      refine bodyPost_ret (v := .tuple #[.int .i64 (a * 256 + b), .int .i64 (-1), .bool true]) (by simp [results, Try.results33, go_sem]) rfl ⟨rfl, q, rfl⟩
set_option maxRecDepth 100000 in
set_option maxHeartbeats 4000000 in
theorem readS (w : World) (A : Option Addr) (c : Nat) (s : Int) (hl : Rd .u8 w A 4 [1, 3, 3, s]) (hcap : 4 ≤ c) (hs : 0 ≤ s ∧ s ≤ 14) :
    Calls Try.prog 33 #[.slice A 4 c] w fun x w' => x = .returned (.tuple #[.int .i64 (0), .int .i64 (s), .bool true]) ∧ ∃ q, w' = w.drewN q := by
  obtain ⟨bk, off, rfl, hbk, hc⟩ := hl.at_ (by omega)
  skip
  have hmx : ¬ 14 < s := by omega
  have c0 : w.cell? ⟨bk, off, none⟩ = some (.int .u8 1) := hc 0 (by omega)
  have c1 : w.cell? ⟨bk, off + 1, none⟩ = some (.int .u8 3) := hc 1 (by omega)
  have c2 : w.cell? ⟨bk, off + 2, none⟩ = some (.int .u8 3) := hc 2 (by omega)
  have c3 : w.cell? ⟨bk, off + 3, none⟩ = some (.int .u8 s) := hc 3 (by omega)
  clear hl hc
  go_enter Try.func33, Try.ntmps33
  go_wp2
  go_step3
  go_wp2
  go_step3
  go_wp2
  go_loopw [2, 3, 5] (fun m s' i wr => (i = .int .i64 0 ∧ m = .int .i64 (0) ∧ s' = .int .i64 (-1) ∧ ∃ q, wr = w.drewN q) ∨ (i = .int .i64 1 ∧ m = .int .i64 (0) ∧ s' = .int .i64 (-1) ∧ ∃ q, wr = w.drewN q) ∨ (i = .int .i64 4 ∧ m = .int .i64 (0) ∧ s' = .int .i64 (s) ∧ ∃ q, wr = w.drewN q)) (fun _ _ i _ => 4 - (intOf i).toNat)
  case atStart => exact .inl ⟨rfl, rfl, rfl, 0, rfl⟩
  case round =>
    rcases hrel with ⟨rfl, rfl, rfl, q, rfl⟩ | ⟨rfl, rfl, rfl, q, rfl⟩ | ⟨rfl, rfl, rfl, q, rfl⟩
    · go_wp2
      skip
      skip
      go_roundw
      case rel => exact .inr (.inl ⟨rfl, rfl, rfl, _, rfl⟩)
      case measure => simp [intOf]
    · go_wp2
      skip
      skip
      go_roundw
      case rel => exact .inr (.inr (⟨rfl, rfl, rfl, _, rfl⟩))
      case measure => simp [intOf]
    · go_wp2
      rw [Exit.noGoto_ret]
      refine bodyPost_ret (v := .tuple #[.int .i64 (0), .int .i64 (s), .bool true]) (by simp [results, Try.results33, go_sem]) rfl ⟨rfl, q, rfl⟩
set_option maxRecDepth 100000 in
set_option maxHeartbeats 4000000 in
theorem readMS (w : World) (A : Option Addr) (c : Nat) (a b s : Int) (hl : Rd .u8 w A 8 [2, 4, a, b, 1, 3, 3, s]) (hcap : 8 ≤ c) (ha : 0 ≤ a ∧ a ≤ 255) (hb : 0 ≤ b ∧ b ≤ 255) (hs : 0 ≤ s ∧ s ≤ 14) :
    Calls Try.prog 33 #[.slice A 8 c] w fun x w' => x = .returned (.tuple #[.int .i64 (a * 256 + b), .int .i64 (s), .bool true]) ∧ ∃ q, w' = w.drewN q := by
  obtain ⟨bk, off, rfl, hbk, hc⟩ := hl.at_ (by omega)
  have hor : bits .or .i64 (a * 256) b = a * 256 + b := i64_or_mul a b 8 256 rfl ha.1 hb.1 (by omega) (by omega)
  have hmx : ¬ 14 < s := by omega
  have c0 : w.cell? ⟨bk, off, none⟩ = some (.int .u8 2) := hc 0 (by omega)
  have c1 : w.cell? ⟨bk, off + 1, none⟩ = some (.int .u8 4) := hc 1 (by omega)
  have c2 : w.cell? ⟨bk, off + 2, none⟩ = some (.int .u8 a) := hc 2 (by omega)
  have c3 : w.cell? ⟨bk, off + 3, none⟩ = some (.int .u8 b) := hc 3 (by omega)
  have c4 : w.cell? ⟨bk, off + 4, none⟩ = some (.int .u8 1) := hc 4 (by omega)
  have c5 : w.cell? ⟨bk, off + 5, none⟩ = some (.int .u8 3) := hc 5 (by omega)
  have c6 : w.cell? ⟨bk, off + 6, none⟩ = some (.int .u8 3) := hc 6 (by omega)
  have c7 : w.cell? ⟨bk, off + 7, none⟩ = some (.int .u8 s) := hc 7 (by omega)
  clear hl hc
  go_enter Try.func33, Try.ntmps33
  go_wp2
  go_step3
  go_wp2
  go_step3
  go_wp2
  go_loopw [2, 3, 5] (fun m s' i wr => (i = .int .i64 0 ∧ m = .int .i64 (0) ∧ s' = .int .i64 (-1) ∧ ∃ q, wr = w.drewN q) ∨ (i = .int .i64 4 ∧ m = .int .i64 (a * 256 + b) ∧ s' = .int .i64 (-1) ∧ ∃ q, wr = w.drewN q) ∨ (i = .int .i64 5 ∧ m = .int .i64 (a * 256 + b) ∧ s' = .int .i64 (-1) ∧ ∃ q, wr = w.drewN q) ∨ (i = .int .i64 8 ∧ m = .int .i64 (a * 256 + b) ∧ s' = .int .i64 (s) ∧ ∃ q, wr = w.drewN q)) (fun _ _ i _ => 8 - (intOf i).toNat)
  case atStart => exact .inl ⟨rfl, rfl, rfl, 0, rfl⟩
  case round =>
    rcases hrel with ⟨rfl, rfl, rfl, q, rfl⟩ | ⟨rfl, rfl, rfl, q, rfl⟩ | ⟨rfl, rfl, rfl, q, rfl⟩ | ⟨rfl, rfl, rfl, q, rfl⟩
    · go_wp2
      go_quiet (fail)
      go_wp2
      go_roundw
      case rel => exact .inr (.inl ⟨rfl, rfl, rfl, _, rfl⟩)
      case measure => simp [intOf]
    · go_wp2
      skip
      skip
      go_roundw
      case rel => exact .inr (.inr (.inl ⟨rfl, rfl, rfl, _, rfl⟩))
      case measure => simp [intOf]
    · go_wp2
      skip
      skip
      go_roundw
      case rel => exact .inr (.inr (.inr (⟨rfl, rfl, rfl, _, rfl⟩)))
      case measure => simp [intOf]
    · go_wp2
      rw [Exit.noGoto_ret]
      refine bodyPost_ret (v := .tuple #[.int .i64 (a * 256 + b), .int .i64 (s), .bool true]) (by simp [results, Try.results33, go_sem]) rfl ⟨rfl, q, rfl⟩
set_option maxRecDepth 100000 in
set_option maxHeartbeats 2000000 in
theorem readN (w : World) (A : Option Addr) (c : Nat) :
    Calls Try.prog 33 #[.slice A 0 c] w fun x w' => x = .returned (.tuple #[.int .i64 0, .int .i64 (-1), .bool true]) ∧ ∃ q, w' = w.drewN q := by
  go_enter Try.func33, Try.ntmps33
  go_wp2
  go_step3
  go_wp2
  go_step3
  go_wp2
  go_loopw [2, 3, 5] (fun m s' i wr => i = .int .i64 0 ∧ m = .int .i64 0 ∧ s' = .int .i64 (-1) ∧ ∃ q, wr = w.drewN q) (fun _ _ i _ => 0)
  case atStart => exact ⟨rfl, rfl, rfl, 0, rfl⟩
  case round =>
    obtain ⟨rfl, rfl, rfl, q, rfl⟩ := hrel
    go_wp2
    rw [Exit.noGoto_ret]
    exact bodyPost_ret (v := .tuple #[.int .i64 0, .int .i64 (-1), .bool true]) (by simp [results, Try.results33, go_sem]) rfl ⟨rfl, q, rfl⟩
end Go.Proofs.Ytkpdgfimibmoeaa.seg
