/-
  Chapter 4 (ether): every address has its text, which is read as it: the law by a walk of its text. Conditions: none but those typed.
-/
import Derived.Test.YtiihhngddmboaaaEthY
import Derived.Test.YtiihhngddmboaaaEvP4
namespace Go.Proofs.Ytiihhngddmboaaa.eth
set_option linter.unusedVariables false
set_option linter.unusedSimpArgs false
open Go.ChangeShapes Go.WideShapes Go.ChangeAt Go.RowKit Go.IntWalk Go.Lib
set_option maxRecDepth 100000 in
set_option maxHeartbeats 8000000 in
theorem rtext1 (w : World) (m0 m1 m2 m3 m4 m5 : Int) (h0 : 0 ≤ m0 ∧ m0 ≤ 255) (h1 : 0 ≤ m1 ∧ m1 ≤ 255) (h2 : 0 ≤ m2 ∧ m2 ≤ 255) (h3 : 0 ≤ m3 ∧ m3 ≤ 255) (h4 : 0 ≤ m4 ∧ m4 ≤ 255) (h5 : 0 ≤ m5 ∧ m5 ≤ 255) : Calls Try.prog 21 #[.agg #[.int .u8 m0, .int .u8 m1, .int .u8 m2, .int .u8 m3, .int .u8 m4, .int .u8 m5]] w fun x w' => x = .returned (.string ⟨(tx m0 m1 m2 m3 m4 m5).toArray⟩) ∧ Only [] w w' := by
  have QB : Hid (Only [] w (w.alloc (.cells #[.int .u8 m0, .int .u8 m1, .int .u8 m2, .int .u8 m3, .int .u8 m4, .int .u8 m5] 23))) := hid ((Only.refl [] w).alloc _)
  have OM : Hid (Ob (w.alloc (.cells #[.int .u8 m0, .int .u8 m1, .int .u8 m2, .int .u8 m3, .int .u8 m4, .int .u8 m5] 23)) w.heap.size 23 #[.int .u8 m0, .int .u8 m1, .int .u8 m2, .int .u8 m3, .int .u8 m4, .int .u8 m5]) := hid (Ob.new _ _ _)
  go_enter Try.func21, Try.ntmps21
  go_wp2
  generalize hW1 : (w.alloc (.cells #[.int .u8 m0, .int .u8 m1, .int .u8 m2, .int .u8 m3, .int .u8 m4, .int .u8 m5] 23)) = W1 at *
  go_loopw [3, 4] (fun s i wr => ∃ (sb : ByteArray) (q : Nat), s = .string sb ∧ ((i = .int .i64 0 ∧ Hid (sb = ⟨([] : List UInt8).toArray⟩)) ∨ (i = .int .i64 1 ∧ Hid (sb = ⟨([hU (m0 / 16), hU (m0 % 16)] : List UInt8).toArray⟩)) ∨ (i = .int .i64 2 ∧ Hid (sb = ⟨([hU (m0 / 16), hU (m0 % 16), 58, hU (m1 / 16), hU (m1 % 16)] : List UInt8).toArray⟩)) ∨ (i = .int .i64 3 ∧ Hid (sb = ⟨([hU (m0 / 16), hU (m0 % 16), 58, hU (m1 / 16), hU (m1 % 16), 58, hU (m2 / 16), hU (m2 % 16)] : List UInt8).toArray⟩)) ∨ (i = .int .i64 4 ∧ Hid (sb = ⟨([hU (m0 / 16), hU (m0 % 16), 58, hU (m1 / 16), hU (m1 % 16), 58, hU (m2 / 16), hU (m2 % 16), 58, hU (m3 / 16), hU (m3 % 16)] : List UInt8).toArray⟩)) ∨ (i = .int .i64 5 ∧ Hid (sb = ⟨([hU (m0 / 16), hU (m0 % 16), 58, hU (m1 / 16), hU (m1 % 16), 58, hU (m2 / 16), hU (m2 % 16), 58, hU (m3 / 16), hU (m3 % 16), 58, hU (m4 / 16), hU (m4 % 16)] : List UInt8).toArray⟩)) ∨ (i = .int .i64 6 ∧ Hid (sb = ⟨([hU (m0 / 16), hU (m0 % 16), 58, hU (m1 / 16), hU (m1 % 16), 58, hU (m2 / 16), hU (m2 % 16), 58, hU (m3 / 16), hU (m3 % 16), 58, hU (m4 / 16), hU (m4 % 16), 58, hU (m5 / 16), hU (m5 % 16)] : List UInt8).toArray⟩))) ∧ wr = W1.drewN q) (fun _ i _ => 6 - (RowKit.intOf i).toNat)
  case atStart => exact ⟨⟨#[]⟩, 0, rfl, .inl ⟨rfl, hid rfl⟩, rfl⟩
  case round =>
    obtain ⟨sb, q, rfl, hh, rfl⟩ := hrel
    rcases hh with hh | hh | hh | hh | hh | hh | hh
    · skip
      obtain ⟨rfl, HS⟩ := hh
      have hsz : sb.size = 0 := by rw [HS.out]; rfl
      have c0 : W1.cell? ⟨w.heap.size, 0, none⟩ = some (.int .u8 m0) := OM.out.cell 0
      have xa := fun W => slh (m0 / 16) (by omega) W
      have xb := fun W => slh (m0 % 16) (by omega) W
      have z1 : ∀ x : UInt8, (ByteArray.mk #[x]).size = 1 := fun _ => rfl
      obtain ⟨s2, hs2⟩ : ∃ s, sb ++ ByteArray.mk #[hU (m0 / 16)] = s := ⟨_, rfl⟩
      have S2 : Hid (s2 = ⟨([hU (m0 / 16)] : List UInt8).toArray⟩) := hid (by rw [← hs2, HS.out]; exact catB [] [hU (m0 / 16)])
      have hz2 : s2.size = 1 := by rw [S2.out]; rfl
      obtain ⟨s3, hs3⟩ : ∃ s, s2 ++ ByteArray.mk #[hU (m0 % 16)] = s := ⟨_, rfl⟩
      have S3 : Hid (s3 = ⟨([hU (m0 / 16), hU (m0 % 16)] : List UInt8).toArray⟩) := hid (by rw [← hs3, S2.out]; exact catB [hU (m0 / 16)] [hU (m0 % 16)])
      go_wp2
      go_quiet (fail)
      go_wp2
      go_roundw
      case rel => exact ⟨s3, _, rfl, .inr (.inl ⟨rfl, S3⟩), by first | rfl | (rw [World.drewN_drewN])⟩
      case measure => simp [RowKit.intOf]
    · skip
      obtain ⟨rfl, HS⟩ := hh
      have hsz : sb.size = 2 := by rw [HS.out]; rfl
      have c1 : W1.cell? ⟨w.heap.size, 1, none⟩ = some (.int .u8 m1) := OM.out.cell 1
      have xa := fun W => slh (m1 / 16) (by omega) W
      have xb := fun W => slh (m1 % 16) (by omega) W
      have z1 : ∀ x : UInt8, (ByteArray.mk #[x]).size = 1 := fun _ => rfl
      obtain ⟨s1, hs1⟩ : ∃ s, sb ++ ByteArray.mk #[58] = s := ⟨_, rfl⟩
      have S1 : Hid (s1 = ⟨([hU (m0 / 16), hU (m0 % 16), 58] : List UInt8).toArray⟩) := hid (by rw [← hs1, HS.out]; exact catB [hU (m0 / 16), hU (m0 % 16)] [58])
      have hz1 : s1.size = 3 := by rw [S1.out]; rfl
      obtain ⟨s2, hs2⟩ : ∃ s, s1 ++ ByteArray.mk #[hU (m1 / 16)] = s := ⟨_, rfl⟩
      have S2 : Hid (s2 = ⟨([hU (m0 / 16), hU (m0 % 16), 58, hU (m1 / 16)] : List UInt8).toArray⟩) := hid (by rw [← hs2, S1.out]; exact catB [hU (m0 / 16), hU (m0 % 16), 58] [hU (m1 / 16)])
      have hz2 : s2.size = 4 := by rw [S2.out]; rfl
      obtain ⟨s3, hs3⟩ : ∃ s, s2 ++ ByteArray.mk #[hU (m1 % 16)] = s := ⟨_, rfl⟩
      have S3 : Hid (s3 = ⟨([hU (m0 / 16), hU (m0 % 16), 58, hU (m1 / 16), hU (m1 % 16)] : List UInt8).toArray⟩) := hid (by rw [← hs3, S2.out]; exact catB [hU (m0 / 16), hU (m0 % 16), 58, hU (m1 / 16)] [hU (m1 % 16)])
      go_wp2
      go_quiet (fail)
      go_wp2
      go_roundw
      case rel => exact ⟨s3, _, rfl, .inr (.inr (.inl ⟨rfl, S3⟩)), by first | rfl | (rw [World.drewN_drewN])⟩
      case measure => simp [RowKit.intOf]
    · skip
      obtain ⟨rfl, HS⟩ := hh
      have hsz : sb.size = 5 := by rw [HS.out]; rfl
      have c2 : W1.cell? ⟨w.heap.size, 2, none⟩ = some (.int .u8 m2) := OM.out.cell 2
      have xa := fun W => slh (m2 / 16) (by omega) W
      have xb := fun W => slh (m2 % 16) (by omega) W
      have z1 : ∀ x : UInt8, (ByteArray.mk #[x]).size = 1 := fun _ => rfl
      obtain ⟨s1, hs1⟩ : ∃ s, sb ++ ByteArray.mk #[58] = s := ⟨_, rfl⟩
      have S1 : Hid (s1 = ⟨([hU (m0 / 16), hU (m0 % 16), 58, hU (m1 / 16), hU (m1 % 16), 58] : List UInt8).toArray⟩) := hid (by rw [← hs1, HS.out]; exact catB [hU (m0 / 16), hU (m0 % 16), 58, hU (m1 / 16), hU (m1 % 16)] [58])
      have hz1 : s1.size = 6 := by rw [S1.out]; rfl
      obtain ⟨s2, hs2⟩ : ∃ s, s1 ++ ByteArray.mk #[hU (m2 / 16)] = s := ⟨_, rfl⟩
      have S2 : Hid (s2 = ⟨([hU (m0 / 16), hU (m0 % 16), 58, hU (m1 / 16), hU (m1 % 16), 58, hU (m2 / 16)] : List UInt8).toArray⟩) := hid (by rw [← hs2, S1.out]; exact catB [hU (m0 / 16), hU (m0 % 16), 58, hU (m1 / 16), hU (m1 % 16), 58] [hU (m2 / 16)])
      have hz2 : s2.size = 7 := by rw [S2.out]; rfl
      obtain ⟨s3, hs3⟩ : ∃ s, s2 ++ ByteArray.mk #[hU (m2 % 16)] = s := ⟨_, rfl⟩
      have S3 : Hid (s3 = ⟨([hU (m0 / 16), hU (m0 % 16), 58, hU (m1 / 16), hU (m1 % 16), 58, hU (m2 / 16), hU (m2 % 16)] : List UInt8).toArray⟩) := hid (by rw [← hs3, S2.out]; exact catB [hU (m0 / 16), hU (m0 % 16), 58, hU (m1 / 16), hU (m1 % 16), 58, hU (m2 / 16)] [hU (m2 % 16)])
      go_wp2
      go_quiet (fail)
      go_wp2
      go_roundw
      case rel => exact ⟨s3, _, rfl, .inr (.inr (.inr (.inl ⟨rfl, S3⟩))), by first | rfl | (rw [World.drewN_drewN])⟩
      case measure => simp [RowKit.intOf]
    · skip
      obtain ⟨rfl, HS⟩ := hh
      have hsz : sb.size = 8 := by rw [HS.out]; rfl
      have c3 : W1.cell? ⟨w.heap.size, 3, none⟩ = some (.int .u8 m3) := OM.out.cell 3
      have xa := fun W => slh (m3 / 16) (by omega) W
      have xb := fun W => slh (m3 % 16) (by omega) W
      have z1 : ∀ x : UInt8, (ByteArray.mk #[x]).size = 1 := fun _ => rfl
      obtain ⟨s1, hs1⟩ : ∃ s, sb ++ ByteArray.mk #[58] = s := ⟨_, rfl⟩
      have S1 : Hid (s1 = ⟨([hU (m0 / 16), hU (m0 % 16), 58, hU (m1 / 16), hU (m1 % 16), 58, hU (m2 / 16), hU (m2 % 16), 58] : List UInt8).toArray⟩) := hid (by rw [← hs1, HS.out]; exact catB [hU (m0 / 16), hU (m0 % 16), 58, hU (m1 / 16), hU (m1 % 16), 58, hU (m2 / 16), hU (m2 % 16)] [58])
      have hz1 : s1.size = 9 := by rw [S1.out]; rfl
      obtain ⟨s2, hs2⟩ : ∃ s, s1 ++ ByteArray.mk #[hU (m3 / 16)] = s := ⟨_, rfl⟩
      have S2 : Hid (s2 = ⟨([hU (m0 / 16), hU (m0 % 16), 58, hU (m1 / 16), hU (m1 % 16), 58, hU (m2 / 16), hU (m2 % 16), 58, hU (m3 / 16)] : List UInt8).toArray⟩) := hid (by rw [← hs2, S1.out]; exact catB [hU (m0 / 16), hU (m0 % 16), 58, hU (m1 / 16), hU (m1 % 16), 58, hU (m2 / 16), hU (m2 % 16), 58] [hU (m3 / 16)])
      have hz2 : s2.size = 10 := by rw [S2.out]; rfl
      obtain ⟨s3, hs3⟩ : ∃ s, s2 ++ ByteArray.mk #[hU (m3 % 16)] = s := ⟨_, rfl⟩
      have S3 : Hid (s3 = ⟨([hU (m0 / 16), hU (m0 % 16), 58, hU (m1 / 16), hU (m1 % 16), 58, hU (m2 / 16), hU (m2 % 16), 58, hU (m3 / 16), hU (m3 % 16)] : List UInt8).toArray⟩) := hid (by rw [← hs3, S2.out]; exact catB [hU (m0 / 16), hU (m0 % 16), 58, hU (m1 / 16), hU (m1 % 16), 58, hU (m2 / 16), hU (m2 % 16), 58, hU (m3 / 16)] [hU (m3 % 16)])
      go_wp2
      go_quiet (fail)
      go_wp2
      go_roundw
      case rel => exact ⟨s3, _, rfl, .inr (.inr (.inr (.inr (.inl ⟨rfl, S3⟩)))), by first | rfl | (rw [World.drewN_drewN])⟩
      case measure => simp [RowKit.intOf]
    · skip
      obtain ⟨rfl, HS⟩ := hh
      have hsz : sb.size = 11 := by rw [HS.out]; rfl
      have c4 : W1.cell? ⟨w.heap.size, 4, none⟩ = some (.int .u8 m4) := OM.out.cell 4
      have xa := fun W => slh (m4 / 16) (by omega) W
      have xb := fun W => slh (m4 % 16) (by omega) W
      have z1 : ∀ x : UInt8, (ByteArray.mk #[x]).size = 1 := fun _ => rfl
      obtain ⟨s1, hs1⟩ : ∃ s, sb ++ ByteArray.mk #[58] = s := ⟨_, rfl⟩
      have S1 : Hid (s1 = ⟨([hU (m0 / 16), hU (m0 % 16), 58, hU (m1 / 16), hU (m1 % 16), 58, hU (m2 / 16), hU (m2 % 16), 58, hU (m3 / 16), hU (m3 % 16), 58] : List UInt8).toArray⟩) := hid (by rw [← hs1, HS.out]; exact catB [hU (m0 / 16), hU (m0 % 16), 58, hU (m1 / 16), hU (m1 % 16), 58, hU (m2 / 16), hU (m2 % 16), 58, hU (m3 / 16), hU (m3 % 16)] [58])
      have hz1 : s1.size = 12 := by rw [S1.out]; rfl
      obtain ⟨s2, hs2⟩ : ∃ s, s1 ++ ByteArray.mk #[hU (m4 / 16)] = s := ⟨_, rfl⟩
      have S2 : Hid (s2 = ⟨([hU (m0 / 16), hU (m0 % 16), 58, hU (m1 / 16), hU (m1 % 16), 58, hU (m2 / 16), hU (m2 % 16), 58, hU (m3 / 16), hU (m3 % 16), 58, hU (m4 / 16)] : List UInt8).toArray⟩) := hid (by rw [← hs2, S1.out]; exact catB [hU (m0 / 16), hU (m0 % 16), 58, hU (m1 / 16), hU (m1 % 16), 58, hU (m2 / 16), hU (m2 % 16), 58, hU (m3 / 16), hU (m3 % 16), 58] [hU (m4 / 16)])
      have hz2 : s2.size = 13 := by rw [S2.out]; rfl
      obtain ⟨s3, hs3⟩ : ∃ s, s2 ++ ByteArray.mk #[hU (m4 % 16)] = s := ⟨_, rfl⟩
      have S3 : Hid (s3 = ⟨([hU (m0 / 16), hU (m0 % 16), 58, hU (m1 / 16), hU (m1 % 16), 58, hU (m2 / 16), hU (m2 % 16), 58, hU (m3 / 16), hU (m3 % 16), 58, hU (m4 / 16), hU (m4 % 16)] : List UInt8).toArray⟩) := hid (by rw [← hs3, S2.out]; exact catB [hU (m0 / 16), hU (m0 % 16), 58, hU (m1 / 16), hU (m1 % 16), 58, hU (m2 / 16), hU (m2 % 16), 58, hU (m3 / 16), hU (m3 % 16), 58, hU (m4 / 16)] [hU (m4 % 16)])
      go_wp2
      go_quiet (fail)
      go_wp2
      go_roundw
      case rel => exact ⟨s3, _, rfl, .inr (.inr (.inr (.inr (.inr (.inl ⟨rfl, S3⟩))))), by first | rfl | (rw [World.drewN_drewN])⟩
      case measure => simp [RowKit.intOf]
    · skip
      obtain ⟨rfl, HS⟩ := hh
      have hsz : sb.size = 14 := by rw [HS.out]; rfl
      have c5 : W1.cell? ⟨w.heap.size, 5, none⟩ = some (.int .u8 m5) := OM.out.cell 5
      have xa := fun W => slh (m5 / 16) (by omega) W
      have xb := fun W => slh (m5 % 16) (by omega) W
      have z1 : ∀ x : UInt8, (ByteArray.mk #[x]).size = 1 := fun _ => rfl
      obtain ⟨s1, hs1⟩ : ∃ s, sb ++ ByteArray.mk #[58] = s := ⟨_, rfl⟩
      have S1 : Hid (s1 = ⟨([hU (m0 / 16), hU (m0 % 16), 58, hU (m1 / 16), hU (m1 % 16), 58, hU (m2 / 16), hU (m2 % 16), 58, hU (m3 / 16), hU (m3 % 16), 58, hU (m4 / 16), hU (m4 % 16), 58] : List UInt8).toArray⟩) := hid (by rw [← hs1, HS.out]; exact catB [hU (m0 / 16), hU (m0 % 16), 58, hU (m1 / 16), hU (m1 % 16), 58, hU (m2 / 16), hU (m2 % 16), 58, hU (m3 / 16), hU (m3 % 16), 58, hU (m4 / 16), hU (m4 % 16)] [58])
      have hz1 : s1.size = 15 := by rw [S1.out]; rfl
      obtain ⟨s2, hs2⟩ : ∃ s, s1 ++ ByteArray.mk #[hU (m5 / 16)] = s := ⟨_, rfl⟩
      have S2 : Hid (s2 = ⟨([hU (m0 / 16), hU (m0 % 16), 58, hU (m1 / 16), hU (m1 % 16), 58, hU (m2 / 16), hU (m2 % 16), 58, hU (m3 / 16), hU (m3 % 16), 58, hU (m4 / 16), hU (m4 % 16), 58, hU (m5 / 16)] : List UInt8).toArray⟩) := hid (by rw [← hs2, S1.out]; exact catB [hU (m0 / 16), hU (m0 % 16), 58, hU (m1 / 16), hU (m1 % 16), 58, hU (m2 / 16), hU (m2 % 16), 58, hU (m3 / 16), hU (m3 % 16), 58, hU (m4 / 16), hU (m4 % 16), 58] [hU (m5 / 16)])
      have hz2 : s2.size = 16 := by rw [S2.out]; rfl
      obtain ⟨s3, hs3⟩ : ∃ s, s2 ++ ByteArray.mk #[hU (m5 % 16)] = s := ⟨_, rfl⟩
      have S3 : Hid (s3 = ⟨([hU (m0 / 16), hU (m0 % 16), 58, hU (m1 / 16), hU (m1 % 16), 58, hU (m2 / 16), hU (m2 % 16), 58, hU (m3 / 16), hU (m3 % 16), 58, hU (m4 / 16), hU (m4 % 16), 58, hU (m5 / 16), hU (m5 % 16)] : List UInt8).toArray⟩) := hid (by rw [← hs3, S2.out]; exact catB [hU (m0 / 16), hU (m0 % 16), 58, hU (m1 / 16), hU (m1 % 16), 58, hU (m2 / 16), hU (m2 % 16), 58, hU (m3 / 16), hU (m3 % 16), 58, hU (m4 / 16), hU (m4 % 16), 58, hU (m5 / 16)] [hU (m5 % 16)])
      go_wp2
      go_quiet (fail)
      go_wp2
      go_roundw
      case rel => exact ⟨s3, _, rfl, .inr (.inr (.inr (.inr (.inr (.inr (⟨rfl, S3⟩)))))), by first | rfl | (rw [World.drewN_drewN])⟩
      case measure => simp [RowKit.intOf]
    · skip
      obtain ⟨rfl, HS⟩ := hh
      go_wp2
      go_ret
      exact ⟨by rw [HS.out]; rfl, QB.out.drewN _⟩
theorem dig_hx (v : Int) (h : 0 ≤ v ∧ v ≤ 15) : dig (hx v) = v := by
  obtain ⟨n, rfl⟩ := Int.eq_ofNat_of_zero_le h.1
  have key : ∀ m : Fin 16, dig (hx (m.val : Int)) = (m.val : Int) := by decide +kernel
  exact key ⟨n, by omega⟩
theorem good_tx (m0 m1 m2 m3 m4 m5 : Int) (h0 : 0 ≤ m0 ∧ m0 ≤ 255) (h1 : 0 ≤ m1 ∧ m1 ≤ 255) (h2 : 0 ≤ m2 ∧ m2 ≤ 255) (h3 : 0 ≤ m3 ∧ m3 ≤ 255) (h4 : 0 ≤ m4 ∧ m4 ≤ 255) (h5 : 0 ≤ m5 ∧ m5 ≤ 255) : good ⟨(tx m0 m1 m2 m3 m4 m5).toArray⟩ = true := by
  refine good_all _ rfl (fun j hj => ?_)
  have hj2 : j = 0 ∨ j = 1 ∨ j = 2 ∨ j = 3 ∨ j = 4 ∨ j = 5 ∨ j = 6 ∨ j = 7 ∨ j = 8 ∨ j = 9 ∨ j = 10 ∨ j = 11 ∨ j = 12 ∨ j = 13 ∨ j = 14 ∨ j = 15 ∨ j = 16 := by omega
  rcases hj2 with rfl | rfl | rfl | rfl | rfl | rfl | rfl | rfl | rfl | rfl | rfl | rfl | rfl | rfl | rfl | rfl | rfl
  · show (if 0 % 3 = 2 then _ else decide (0 ≤ dig (hx (m0 / 16)))) = true
    rw [if_neg (by decide), dig_hx (m0 / 16) (by omega)]; simp; omega
  · show (if 1 % 3 = 2 then _ else decide (0 ≤ dig (hx (m0 % 16)))) = true
    rw [if_neg (by decide), dig_hx (m0 % 16) (by omega)]; simp; omega
  · show (if 2 % 3 = 2 then decide ((58 : Int) = 58) else _) = true
    rw [if_pos (by decide)]; rfl
  · show (if 3 % 3 = 2 then _ else decide (0 ≤ dig (hx (m1 / 16)))) = true
    rw [if_neg (by decide), dig_hx (m1 / 16) (by omega)]; simp; omega
  · show (if 4 % 3 = 2 then _ else decide (0 ≤ dig (hx (m1 % 16)))) = true
    rw [if_neg (by decide), dig_hx (m1 % 16) (by omega)]; simp; omega
  · show (if 5 % 3 = 2 then decide ((58 : Int) = 58) else _) = true
    rw [if_pos (by decide)]; rfl
  · show (if 6 % 3 = 2 then _ else decide (0 ≤ dig (hx (m2 / 16)))) = true
    rw [if_neg (by decide), dig_hx (m2 / 16) (by omega)]; simp; omega
  · show (if 7 % 3 = 2 then _ else decide (0 ≤ dig (hx (m2 % 16)))) = true
    rw [if_neg (by decide), dig_hx (m2 % 16) (by omega)]; simp; omega
  · show (if 8 % 3 = 2 then decide ((58 : Int) = 58) else _) = true
    rw [if_pos (by decide)]; rfl
  · show (if 9 % 3 = 2 then _ else decide (0 ≤ dig (hx (m3 / 16)))) = true
    rw [if_neg (by decide), dig_hx (m3 / 16) (by omega)]; simp; omega
  · show (if 10 % 3 = 2 then _ else decide (0 ≤ dig (hx (m3 % 16)))) = true
    rw [if_neg (by decide), dig_hx (m3 % 16) (by omega)]; simp; omega
  · show (if 11 % 3 = 2 then decide ((58 : Int) = 58) else _) = true
    rw [if_pos (by decide)]; rfl
  · show (if 12 % 3 = 2 then _ else decide (0 ≤ dig (hx (m4 / 16)))) = true
    rw [if_neg (by decide), dig_hx (m4 / 16) (by omega)]; simp; omega
  · show (if 13 % 3 = 2 then _ else decide (0 ≤ dig (hx (m4 % 16)))) = true
    rw [if_neg (by decide), dig_hx (m4 % 16) (by omega)]; simp; omega
  · show (if 14 % 3 = 2 then decide ((58 : Int) = 58) else _) = true
    rw [if_pos (by decide)]; rfl
  · show (if 15 % 3 = 2 then _ else decide (0 ≤ dig (hx (m5 / 16)))) = true
    rw [if_neg (by decide), dig_hx (m5 / 16) (by omega)]; simp; omega
  · show (if 16 % 3 = 2 then _ else decide (0 ≤ dig (hx (m5 % 16)))) = true
    rw [if_neg (by decide), dig_hx (m5 % 16) (by omega)]; simp; omega
theorem pm_tx (m0 m1 m2 m3 m4 m5 : Int) (h0 : 0 ≤ m0 ∧ m0 ≤ 255) (h1 : 0 ≤ m1 ∧ m1 ≤ 255) (h2 : 0 ≤ m2 ∧ m2 ≤ 255) (h3 : 0 ≤ m3 ∧ m3 ≤ 255) (h4 : 0 ≤ m4 ∧ m4 ≤ 255) (h5 : 0 ≤ m5 ∧ m5 ≤ 255) : pm ⟨(tx m0 m1 m2 m3 m4 m5).toArray⟩ = #[.int .u8 m0, .int .u8 m1, .int .u8 m2, .int .u8 m3, .int .u8 m4, .int .u8 m5] := by
  unfold pm
  rw [if_pos (good_tx m0 m1 m2 m3 m4 m5 h0 h1 h2 h3 h4 h5)]
  show #[Value.int .u8 (dig (hx (m0 / 16)) * 16 + dig (hx (m0 % 16))), Value.int .u8 (dig (hx (m1 / 16)) * 16 + dig (hx (m1 % 16))), Value.int .u8 (dig (hx (m2 / 16)) * 16 + dig (hx (m2 % 16))), Value.int .u8 (dig (hx (m3 / 16)) * 16 + dig (hx (m3 % 16))), Value.int .u8 (dig (hx (m4 / 16)) * 16 + dig (hx (m4 % 16))), Value.int .u8 (dig (hx (m5 / 16)) * 16 + dig (hx (m5 % 16)))] = _
  rw [dig_hx (m0 / 16) (by omega), dig_hx (m0 % 16) (by omega), dig_hx (m1 / 16) (by omega), dig_hx (m1 % 16) (by omega), dig_hx (m2 / 16) (by omega), dig_hx (m2 % 16) (by omega), dig_hx (m3 / 16) (by omega), dig_hx (m3 % 16) (by omega), dig_hx (m4 / 16) (by omega), dig_hx (m4 % 16) (by omega), dig_hx (m5 / 16) (by omega), dig_hx (m5 % 16) (by omega)]
  rw [show m0 / 16 * 16 + m0 % 16 = m0 from by omega, show m1 / 16 * 16 + m1 % 16 = m1 from by omega, show m2 / 16 * 16 + m2 % 16 = m2 from by omega, show m3 / 16 * 16 + m3 % 16 = m3 from by omega, show m4 / 16 * 16 + m4 % 16 = m4 from by omega, show m5 / 16 * 16 + m5 % 16 = m5 from by omega]
theorem pe_tx (m0 m1 m2 m3 m4 m5 : Int) (h0 : 0 ≤ m0 ∧ m0 ≤ 255) (h1 : 0 ≤ m1 ∧ m1 ≤ 255) (h2 : 0 ≤ m2 ∧ m2 ≤ 255) (h3 : 0 ≤ m3 ∧ m3 ≤ 255) (h4 : 0 ≤ m4 ∧ m4 ≤ 255) (h5 : 0 ≤ m5 ∧ m5 ≤ 255) : pe ⟨(tx m0 m1 m2 m3 m4 m5).toArray⟩ = 0 := by
  unfold pe
  rw [if_pos (good_tx m0 m1 m2 m3 m4 m5 h0 h1 h2 h3 h4 h5)]
set_option maxHeartbeats 2000000 in
theorem textsLaw (w : World) (m0 m1 m2 m3 m4 m5 : Int) (h0 : 0 ≤ m0 ∧ m0 ≤ 255) (h1 : 0 ≤ m1 ∧ m1 ≤ 255) (h2 : 0 ≤ m2 ∧ m2 ≤ 255) (h3 : 0 ≤ m3 ∧ m3 ≤ 255) (h4 : 0 ≤ m4 ∧ m4 ≤ 255) (h5 : 0 ≤ m5 ∧ m5 ≤ 255) : Calls Try.prog 6 #[.agg #[.int .u8 m0, .int .u8 m1, .int .u8 m2, .int .u8 m3, .int .u8 m4, .int .u8 m5]] w (fun e w' => e = .returned (.bool true) ∧ Only [] w w') := by
  have QB : Hid (Only [] w (w.alloc (.cells #[.int .u8 m0, .int .u8 m1, .int .u8 m2, .int .u8 m3, .int .u8 m4, .int .u8 m5] 23))) := hid ((Only.refl [] w).alloc _)
  have OM : Hid (Ob (w.alloc (.cells #[.int .u8 m0, .int .u8 m1, .int .u8 m2, .int .u8 m3, .int .u8 m4, .int .u8 m5] 23)) w.heap.size 23 #[.int .u8 m0, .int .u8 m1, .int .u8 m2, .int .u8 m3, .int .u8 m4, .int .u8 m5]) := hid (Ob.new _ _ _)
  have HPM := hid (pm_tx m0 m1 m2 m3 m4 m5 h0 h1 h2 h3 h4 h5)
  have HPE := hid (pe_tx m0 m1 m2 m3 m4 m5 h0 h1 h2 h3 h4 h5)
  obtain ⟨s, hs⟩ : ∃ s : ByteArray, ⟨(tx m0 m1 m2 m3 m4 m5).toArray⟩ = s := ⟨_, rfl⟩
  have T1 := hid (fun W => text1 W m0 m1 m2 m3 m4 m5 h0 h1 h2 h3 h4 h5)
  have T2 := hid (fun W => rtext1 W m0 m1 m2 m3 m4 m5 h0 h1 h2 h3 h4 h5)
  rw [hs] at HPM HPE T1 T2
  clear hs
  go_enter Try.func6, Try.ntmps6
  go_wp2_with (first
    | (refine wp_loadOb rfl 23 (.tmp 1) rfl w.heap.size rfl _ 23 OM.out Try.underlying23 rfl (by kernel_rfl) ?_; try simp only [Act.put, List.setIfInBounds_toArray, List.set_cons_zero, List.set_cons_succ])
    | fail)
  refine (T1.out _).mono ?_
  rintro x w2 ⟨rfl, o2⟩
  have OM := hid (OM.out.only o2 (by simp)); have QB := hid (QB.out.trans o2); clear o2
  go_wp2_with fail
  refine (parse1 _ s).mono ?_
  rintro x w3 ⟨rfl, o3⟩
  rw [HPM.out, HPE.out]
  have OM := hid ((OM.out.only o3 (by simp)).alloc (.cells #[.int .u8 m0, .int .u8 m1, .int .u8 m2, .int .u8 m3, .int .u8 m4, .int .u8 m5] 23))
  have OA : Hid (Ob (w3.alloc (.cells #[.int .u8 m0, .int .u8 m1, .int .u8 m2, .int .u8 m3, .int .u8 m4, .int .u8 m5] 23)) w3.heap.size 23 #[.int .u8 m0, .int .u8 m1, .int .u8 m2, .int .u8 m3, .int .u8 m4, .int .u8 m5]) := hid (Ob.new _ _ _)
  have QB : Hid (Only [] w (w3.alloc (.cells #[.int .u8 m0, .int .u8 m1, .int .u8 m2, .int .u8 m3, .int .u8 m4, .int .u8 m5] 23))) := hid ((QB.out.trans o3).alloc _)
  clear o3
  go_wp2_with (first
    | (refine wp_loadOb rfl 23 (.tmp 1) rfl w.heap.size rfl _ 23 OM.out Try.underlying23 rfl (by kernel_rfl) ?_; try simp only [Act.put, List.setIfInBounds_toArray, List.set_cons_zero, List.set_cons_succ])
    | fail)
  refine (T2.out _).mono ?_
  rintro x w4 ⟨rfl, o4⟩
  have OM := hid (OM.out.only o4 (by simp)); have OA := hid (OA.out.only o4 (by simp)); have QB := hid (QB.out.trans o4); clear o4
  have E := fun W => eth_eq W m0 m1 m2 m3 m4 m5 m0 m1 m2 m3 m4 m5 true (by simp [eqM])
  have k0 := OM.out.cell 0; have j0 := OA.out.cell 0; have k1 := OM.out.cell 1; have j1 := OA.out.cell 1; have k2 := OM.out.cell 2; have j2 := OA.out.cell 2; have k3 := OM.out.cell 3; have j3 := OA.out.cell 3; have k4 := OM.out.cell 4; have j4 := OA.out.cell 4; have k5 := OM.out.cell 5; have j5 := OA.out.cell 5
  go_wp2_with fail
  refine (ev.known _).mono ?_
  rintro x w9 ⟨rfl, o9⟩
  have QB := hid (QB.out.trans o9); clear o9
  go_wp2
  go_ret
  exact ⟨rfl, QB.out⟩
end Go.Proofs.Ytiihhngddmboaaa.eth
