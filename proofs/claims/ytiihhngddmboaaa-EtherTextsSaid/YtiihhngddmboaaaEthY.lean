/-
  Chapter 4 (ether): every address has its text, by a walk of each text. Conditions: none but those typed.
-/
import Derived.Test.YtiihhngddmboaaaEthX
import Derived.Lib.SmallJoins
import Derived.Laws.DeepStrings4
namespace Go.Proofs.Ytiihhngddmboaaa.eth
set_option linter.unusedVariables false
set_option linter.unusedSimpArgs false
open Go.ChangeShapes Go.WideShapes Go.ChangeAt Go.RowKit Go.IntWalk Go.Lib
def hU (v : Int) : UInt8 := ([48, 49, 50, 51, 52, 53, 54, 55, 56, 57, 97, 98, 99, 100, 101, 102] : List UInt8).getD v.toNat 0
def hx (v : Int) : Int := ((hU v).toNat : Int)
theorem hx_bd (v : Int) : 0 ≤ hx v ∧ hx v ≤ 255 := by
  unfold hx
  have := (hU v).toNat_lt
  omega
theorem u8_15 (x : Int) (h : 0 ≤ x ∧ x ≤ 255) : bits .and .u8 x 15 = x % 16 := by
  obtain ⟨n, rfl⟩ := Int.eq_ofNat_of_zero_le h.1
  have key : ∀ m : Fin 256, bits .and .u8 (m.val : Int) 15 = (m.val : Int) % 16 := by decide +kernel
  exact key ⟨n, by omega⟩
theorem ixh (v : Int) (h : 0 ≤ v ∧ v ≤ 15) (W : World) : (Instr.index 9 (.string ⟨#[48, 49, 50, 51, 52, 53, 54, 55, 56, 57, 97, 98, 99, 100, 101, 102]⟩) (.int .u8 v)).run Try.prog W = .ok (.int .u8 (hx v)) W := by
  obtain ⟨n, rfl⟩ := Int.eq_ofNat_of_zero_le h.1
  have hn : n < 16 := by omega
  rw [run_index_string W 9 ⟨#[48, 49, 50, 51, 52, 53, 54, 55, 56, 57, 97, 98, 99, 100, 101, 102]⟩ .u8 (n : Int) Try.underlying9, dif_pos ⟨by omega, by show (n : Int) < ((16 : Nat) : Int); omega⟩]
  have e : ((ByteArray.mk #[48, 49, 50, 51, 52, 53, 54, 55, 56, 57, 97, 98, 99, 100, 101, 102])[((n : Nat) : Int).toNat]'(by show ((n : Nat) : Int).toNat < 16; omega)) = hU (n : Int) := by
    unfold hU
    simp only [Int.toNat_natCast]
    rw [List.getD_eq_getElem?_getD, List.getElem?_eq_getElem (by show n < 16; omega)]
    rfl
  unfold hx
  rw [e]
theorem slh (v : Int) (h : 0 ≤ v ∧ v ≤ 15) (W : World) : (Instr.slice 9 (.string ⟨#[48, 49, 50, 51, 52, 53, 54, 55, 56, 57, 97, 98, 99, 100, 101, 102]⟩) (some (.int .i64 v)) (some (.int .i64 (v + 1))) none).run Try.prog W = .ok (.string ⟨#[hU v]⟩) W := by
  obtain ⟨n, rfl⟩ := Int.eq_ofNat_of_zero_le h.1
  have key : ∀ m : Fin 16, (ByteArray.mk #[48, 49, 50, 51, 52, 53, 54, 55, 56, 57, 97, 98, 99, 100, 101, 102]).extract m.val (m.val + 1) = ⟨#[hU (m.val : Int)]⟩ := by decide +kernel
  rw [run_slice_string_if W 9 ⟨#[48, 49, 50, 51, 52, 53, 54, 55, 56, 57, 97, 98, 99, 100, 101, 102]⟩ .i64 .i64 _ _ Try.underlying9, if_pos ⟨by omega, by show ((n : Int) + 1) ≤ 16; omega⟩, if_pos ⟨by omega, by omega⟩]
  have h9 := key ⟨n, by omega⟩
  rw [show ((n : Int) + 1).toNat = n + 1 from by omega, Int.toNat_natCast]
  rw [h9]
theorem catB (l r : List UInt8) : (⟨l.toArray⟩ : ByteArray) ++ ⟨r.toArray⟩ = ⟨(l ++ r).toArray⟩ := Go.ByteArray.mk_append_mk l r
def tx (m0 m1 m2 m3 m4 m5 : Int) : List UInt8 := [hU (m0 / 16), hU (m0 % 16), 58, hU (m1 / 16), hU (m1 % 16), 58, hU (m2 / 16), hU (m2 % 16), 58, hU (m3 / 16), hU (m3 % 16), 58, hU (m4 / 16), hU (m4 % 16), 58, hU (m5 / 16), hU (m5 % 16)]
theorem tx_map (m0 m1 m2 m3 m4 m5 : Int) : (tx m0 m1 m2 m3 m4 m5).map (fun x => (x.toNat : Int)) = [hx (m0 / 16), hx (m0 % 16), 58, hx (m1 / 16), hx (m1 % 16), 58, hx (m2 / 16), hx (m2 % 16), 58, hx (m3 / 16), hx (m3 % 16), 58, hx (m4 / 16), hx (m4 % 16), 58, hx (m5 / 16), hx (m5 % 16)] := rfl
set_option maxRecDepth 100000 in
set_option maxHeartbeats 8000000 in
theorem text1 (w : World) (m0 m1 m2 m3 m4 m5 : Int) (h0 : 0 ≤ m0 ∧ m0 ≤ 255) (h1 : 0 ≤ m1 ∧ m1 ≤ 255) (h2 : 0 ≤ m2 ∧ m2 ≤ 255) (h3 : 0 ≤ m3 ∧ m3 ≤ 255) (h4 : 0 ≤ m4 ∧ m4 ≤ 255) (h5 : 0 ≤ m5 ∧ m5 ≤ 255) : Calls Try.prog 19 #[.agg #[.int .u8 m0, .int .u8 m1, .int .u8 m2, .int .u8 m3, .int .u8 m4, .int .u8 m5]] w fun x w' => x = .returned (.string ⟨(tx m0 m1 m2 m3 m4 m5).toArray⟩) ∧ Only [] w w' := by
  have QB0 : Hid (Only [] w (w.alloc (.cells #[.int .u8 m0, .int .u8 m1, .int .u8 m2, .int .u8 m3, .int .u8 m4, .int .u8 m5] 23))) := hid ((Only.refl [] w).alloc _)
  have OM : Hid (Ob ((w.alloc (.cells #[.int .u8 m0, .int .u8 m1, .int .u8 m2, .int .u8 m3, .int .u8 m4, .int .u8 m5] 23)).alloc (.cells #[.pointer none, .slice none 0 0] 65)) w.heap.size 23 #[.int .u8 m0, .int .u8 m1, .int .u8 m2, .int .u8 m3, .int .u8 m4, .int .u8 m5]) := hid ((Ob.new _ _ _).alloc _)
  have BB0 : Hid (Bl ((w.alloc (.cells #[.int .u8 m0, .int .u8 m1, .int .u8 m2, .int .u8 m3, .int .u8 m4, .int .u8 m5] 23)).alloc (.cells #[.pointer none, .slice none 0 0] 65)) (w.heap.size + 1) (w.heap.size + 1) []) := hid ⟨.pointer none, .slice none 0 0, .inl rfl, by simpa using Ob.new (w.alloc (.cells #[.int .u8 m0, .int .u8 m1, .int .u8 m2, .int .u8 m3, .int .u8 m4, .int .u8 m5] 23)) 65 #[.pointer none, .slice none 0 0], Own.nil _ _ _ _, Nat.le_refl _⟩
  have HB0 : Hid (Below (w.heap.size + 1) (w.alloc (.cells #[.int .u8 m0, .int .u8 m1, .int .u8 m2, .int .u8 m3, .int .u8 m4, .int .u8 m5] 23)) ((w.alloc (.cells #[.int .u8 m0, .int .u8 m1, .int .u8 m2, .int .u8 m3, .int .u8 m4, .int .u8 m5] 23)).alloc (.cells #[.pointer none, .slice none 0 0] 65))) := hid ((Below.refl _ _).alloc (by simp) _)
  have HS1 : Hid ((w.alloc (.cells #[.int .u8 m0, .int .u8 m1, .int .u8 m2, .int .u8 m3, .int .u8 m4, .int .u8 m5] 23)).heap.size ≤ (w.heap.size + 1)) := hid (by simp)
  go_enter Try.func19, Try.ntmps19
  go_wp2_with (refine wp_loadOb rfl 23 (.tmp 1) rfl w.heap.size rfl _ 23 OM.out Try.underlying23 rfl (by kernel_rfl) ?_; try simp only [Act.put, List.setIfInBounds_toArray, List.set_cons_zero, List.set_cons_succ])
  generalize hW1 : ((w.alloc (.cells #[.int .u8 m0, .int .u8 m1, .int .u8 m2, .int .u8 m3, .int .u8 m4, .int .u8 m5] 23)).alloc (.cells #[.pointer none, .slice none 0 0] 65)) = W1 at *
  go_loopw [7] (fun i wr => ((i = .int .i64 0 ∧ Hid (Bl wr (w.heap.size + 1) (w.heap.size + 1) [])) ∨ (i = .int .i64 1 ∧ Hid (Bl wr (w.heap.size + 1) (w.heap.size + 1) [hx (m0 / 16), hx (m0 % 16)])) ∨ (i = .int .i64 2 ∧ Hid (Bl wr (w.heap.size + 1) (w.heap.size + 1) [hx (m0 / 16), hx (m0 % 16), 58, hx (m1 / 16), hx (m1 % 16)])) ∨ (i = .int .i64 3 ∧ Hid (Bl wr (w.heap.size + 1) (w.heap.size + 1) [hx (m0 / 16), hx (m0 % 16), 58, hx (m1 / 16), hx (m1 % 16), 58, hx (m2 / 16), hx (m2 % 16)])) ∨ (i = .int .i64 4 ∧ Hid (Bl wr (w.heap.size + 1) (w.heap.size + 1) [hx (m0 / 16), hx (m0 % 16), 58, hx (m1 / 16), hx (m1 % 16), 58, hx (m2 / 16), hx (m2 % 16), 58, hx (m3 / 16), hx (m3 % 16)])) ∨ (i = .int .i64 5 ∧ Hid (Bl wr (w.heap.size + 1) (w.heap.size + 1) [hx (m0 / 16), hx (m0 % 16), 58, hx (m1 / 16), hx (m1 % 16), 58, hx (m2 / 16), hx (m2 % 16), 58, hx (m3 / 16), hx (m3 % 16), 58, hx (m4 / 16), hx (m4 % 16)])) ∨ (i = .int .i64 6 ∧ Hid (Bl wr (w.heap.size + 1) (w.heap.size + 1) [hx (m0 / 16), hx (m0 % 16), 58, hx (m1 / 16), hx (m1 % 16), 58, hx (m2 / 16), hx (m2 % 16), 58, hx (m3 / 16), hx (m3 % 16), 58, hx (m4 / 16), hx (m4 % 16), 58, hx (m5 / 16), hx (m5 % 16)]))) ∧ Hid (Below (w.heap.size + 1) (w.alloc (.cells #[.int .u8 m0, .int .u8 m1, .int .u8 m2, .int .u8 m3, .int .u8 m4, .int .u8 m5] 23)) wr)) (fun i _ => 6 - (RowKit.intOf i).toNat)
  case atStart => exact ⟨.inl ⟨rfl, BB0⟩, HB0⟩
  case round =>
    obtain ⟨hh, HB⟩ := hrel
    rcases hh with hh | hh | hh | hh | hh | hh | hh
    · skip
      obtain ⟨rfl, BB⟩ := hh
      have ix : ∀ W, (Instr.index 23 (.agg #[.int .u8 m0, .int .u8 m1, .int .u8 m2, .int .u8 m3, .int .u8 m4, .int .u8 m5]) (.int .i64 0)).run Try.prog W = .ok (.int .u8 m0) W := fun _ => by kernel_rfl
      have xa := fun W => ixh (m0 / 16) (by omega) W
      have xb := fun W => ixh (m0 % 16) (by omega) W
      have hb15 := u8_15 m0 (by omega)
      go_wp2_with fail
      refine (wbyte _ (w.heap.size + 1) (w.heap.size + 1) [] (hx (m0 / 16)) BB.out (hx_bd _) (by simp)).mono ?_
      rintro x w2 ⟨rfl, h2, bb2⟩
      have BB : Hid (Bl w2 (w.heap.size + 1) (w.heap.size + 1) [hx (m0 / 16)]) := hid h2; have HB := hid (HB.out.trans bb2)
      clear h2 bb2
      go_wp2_with fail
      refine (wbyte _ (w.heap.size + 1) (w.heap.size + 1) [hx (m0 / 16)] (hx (m0 % 16)) BB.out (hx_bd _) (by simp)).mono ?_
      rintro x w3 ⟨rfl, h2, bb2⟩
      have BB : Hid (Bl w3 (w.heap.size + 1) (w.heap.size + 1) [hx (m0 / 16), hx (m0 % 16)]) := hid h2; have HB := hid (HB.out.trans bb2)
      clear h2 bb2
      go_wp2
      go_roundw
      case rel => exact ⟨.inr (.inl ⟨rfl, BB⟩), HB⟩
      case measure => simp [RowKit.intOf]
    · skip
      obtain ⟨rfl, BB⟩ := hh
      have ix : ∀ W, (Instr.index 23 (.agg #[.int .u8 m0, .int .u8 m1, .int .u8 m2, .int .u8 m3, .int .u8 m4, .int .u8 m5]) (.int .i64 1)).run Try.prog W = .ok (.int .u8 m1) W := fun _ => by kernel_rfl
      have xa := fun W => ixh (m1 / 16) (by omega) W
      have xb := fun W => ixh (m1 % 16) (by omega) W
      have hb15 := u8_15 m1 (by omega)
      go_wp2_with fail
      refine (wbyte _ (w.heap.size + 1) (w.heap.size + 1) [hx (m0 / 16), hx (m0 % 16)] (58) BB.out (by omega) (by simp)).mono ?_
      rintro x w2 ⟨rfl, h2, bb2⟩
      have BB : Hid (Bl w2 (w.heap.size + 1) (w.heap.size + 1) [hx (m0 / 16), hx (m0 % 16), 58]) := hid h2; have HB := hid (HB.out.trans bb2)
      clear h2 bb2
      go_wp2_with fail
      refine (wbyte _ (w.heap.size + 1) (w.heap.size + 1) [hx (m0 / 16), hx (m0 % 16), 58] (hx (m1 / 16)) BB.out (hx_bd _) (by simp)).mono ?_
      rintro x w3 ⟨rfl, h2, bb2⟩
      have BB : Hid (Bl w3 (w.heap.size + 1) (w.heap.size + 1) [hx (m0 / 16), hx (m0 % 16), 58, hx (m1 / 16)]) := hid h2; have HB := hid (HB.out.trans bb2)
      clear h2 bb2
      go_wp2_with fail
      refine (wbyte _ (w.heap.size + 1) (w.heap.size + 1) [hx (m0 / 16), hx (m0 % 16), 58, hx (m1 / 16)] (hx (m1 % 16)) BB.out (hx_bd _) (by simp)).mono ?_
      rintro x w4 ⟨rfl, h2, bb2⟩
      have BB : Hid (Bl w4 (w.heap.size + 1) (w.heap.size + 1) [hx (m0 / 16), hx (m0 % 16), 58, hx (m1 / 16), hx (m1 % 16)]) := hid h2; have HB := hid (HB.out.trans bb2)
      clear h2 bb2
      go_wp2
      go_roundw
      case rel => exact ⟨.inr (.inr (.inl ⟨rfl, BB⟩)), HB⟩
      case measure => simp [RowKit.intOf]
    · skip
      obtain ⟨rfl, BB⟩ := hh
      have ix : ∀ W, (Instr.index 23 (.agg #[.int .u8 m0, .int .u8 m1, .int .u8 m2, .int .u8 m3, .int .u8 m4, .int .u8 m5]) (.int .i64 2)).run Try.prog W = .ok (.int .u8 m2) W := fun _ => by kernel_rfl
      have xa := fun W => ixh (m2 / 16) (by omega) W
      have xb := fun W => ixh (m2 % 16) (by omega) W
      have hb15 := u8_15 m2 (by omega)
      go_wp2_with fail
      refine (wbyte _ (w.heap.size + 1) (w.heap.size + 1) [hx (m0 / 16), hx (m0 % 16), 58, hx (m1 / 16), hx (m1 % 16)] (58) BB.out (by omega) (by simp)).mono ?_
      rintro x w2 ⟨rfl, h2, bb2⟩
      have BB : Hid (Bl w2 (w.heap.size + 1) (w.heap.size + 1) [hx (m0 / 16), hx (m0 % 16), 58, hx (m1 / 16), hx (m1 % 16), 58]) := hid h2; have HB := hid (HB.out.trans bb2)
      clear h2 bb2
      go_wp2_with fail
      refine (wbyte _ (w.heap.size + 1) (w.heap.size + 1) [hx (m0 / 16), hx (m0 % 16), 58, hx (m1 / 16), hx (m1 % 16), 58] (hx (m2 / 16)) BB.out (hx_bd _) (by simp)).mono ?_
      rintro x w3 ⟨rfl, h2, bb2⟩
      have BB : Hid (Bl w3 (w.heap.size + 1) (w.heap.size + 1) [hx (m0 / 16), hx (m0 % 16), 58, hx (m1 / 16), hx (m1 % 16), 58, hx (m2 / 16)]) := hid h2; have HB := hid (HB.out.trans bb2)
      clear h2 bb2
      go_wp2_with fail
      refine (wbyte _ (w.heap.size + 1) (w.heap.size + 1) [hx (m0 / 16), hx (m0 % 16), 58, hx (m1 / 16), hx (m1 % 16), 58, hx (m2 / 16)] (hx (m2 % 16)) BB.out (hx_bd _) (by simp)).mono ?_
      rintro x w4 ⟨rfl, h2, bb2⟩
      have BB : Hid (Bl w4 (w.heap.size + 1) (w.heap.size + 1) [hx (m0 / 16), hx (m0 % 16), 58, hx (m1 / 16), hx (m1 % 16), 58, hx (m2 / 16), hx (m2 % 16)]) := hid h2; have HB := hid (HB.out.trans bb2)
      clear h2 bb2
      go_wp2
      go_roundw
      case rel => exact ⟨.inr (.inr (.inr (.inl ⟨rfl, BB⟩))), HB⟩
      case measure => simp [RowKit.intOf]
    · skip
      obtain ⟨rfl, BB⟩ := hh
      have ix : ∀ W, (Instr.index 23 (.agg #[.int .u8 m0, .int .u8 m1, .int .u8 m2, .int .u8 m3, .int .u8 m4, .int .u8 m5]) (.int .i64 3)).run Try.prog W = .ok (.int .u8 m3) W := fun _ => by kernel_rfl
      have xa := fun W => ixh (m3 / 16) (by omega) W
      have xb := fun W => ixh (m3 % 16) (by omega) W
      have hb15 := u8_15 m3 (by omega)
      go_wp2_with fail
      refine (wbyte _ (w.heap.size + 1) (w.heap.size + 1) [hx (m0 / 16), hx (m0 % 16), 58, hx (m1 / 16), hx (m1 % 16), 58, hx (m2 / 16), hx (m2 % 16)] (58) BB.out (by omega) (by simp)).mono ?_
      rintro x w2 ⟨rfl, h2, bb2⟩
      have BB : Hid (Bl w2 (w.heap.size + 1) (w.heap.size + 1) [hx (m0 / 16), hx (m0 % 16), 58, hx (m1 / 16), hx (m1 % 16), 58, hx (m2 / 16), hx (m2 % 16), 58]) := hid h2; have HB := hid (HB.out.trans bb2)
      clear h2 bb2
      go_wp2_with fail
      refine (wbyte _ (w.heap.size + 1) (w.heap.size + 1) [hx (m0 / 16), hx (m0 % 16), 58, hx (m1 / 16), hx (m1 % 16), 58, hx (m2 / 16), hx (m2 % 16), 58] (hx (m3 / 16)) BB.out (hx_bd _) (by simp)).mono ?_
      rintro x w3 ⟨rfl, h2, bb2⟩
      have BB : Hid (Bl w3 (w.heap.size + 1) (w.heap.size + 1) [hx (m0 / 16), hx (m0 % 16), 58, hx (m1 / 16), hx (m1 % 16), 58, hx (m2 / 16), hx (m2 % 16), 58, hx (m3 / 16)]) := hid h2; have HB := hid (HB.out.trans bb2)
      clear h2 bb2
      go_wp2_with fail
      refine (wbyte _ (w.heap.size + 1) (w.heap.size + 1) [hx (m0 / 16), hx (m0 % 16), 58, hx (m1 / 16), hx (m1 % 16), 58, hx (m2 / 16), hx (m2 % 16), 58, hx (m3 / 16)] (hx (m3 % 16)) BB.out (hx_bd _) (by simp)).mono ?_
      rintro x w4 ⟨rfl, h2, bb2⟩
      have BB : Hid (Bl w4 (w.heap.size + 1) (w.heap.size + 1) [hx (m0 / 16), hx (m0 % 16), 58, hx (m1 / 16), hx (m1 % 16), 58, hx (m2 / 16), hx (m2 % 16), 58, hx (m3 / 16), hx (m3 % 16)]) := hid h2; have HB := hid (HB.out.trans bb2)
      clear h2 bb2
      go_wp2
      go_roundw
      case rel => exact ⟨.inr (.inr (.inr (.inr (.inl ⟨rfl, BB⟩)))), HB⟩
      case measure => simp [RowKit.intOf]
    · skip
      obtain ⟨rfl, BB⟩ := hh
      have ix : ∀ W, (Instr.index 23 (.agg #[.int .u8 m0, .int .u8 m1, .int .u8 m2, .int .u8 m3, .int .u8 m4, .int .u8 m5]) (.int .i64 4)).run Try.prog W = .ok (.int .u8 m4) W := fun _ => by kernel_rfl
      have xa := fun W => ixh (m4 / 16) (by omega) W
      have xb := fun W => ixh (m4 % 16) (by omega) W
      have hb15 := u8_15 m4 (by omega)
      go_wp2_with fail
      refine (wbyte _ (w.heap.size + 1) (w.heap.size + 1) [hx (m0 / 16), hx (m0 % 16), 58, hx (m1 / 16), hx (m1 % 16), 58, hx (m2 / 16), hx (m2 % 16), 58, hx (m3 / 16), hx (m3 % 16)] (58) BB.out (by omega) (by simp)).mono ?_
      rintro x w2 ⟨rfl, h2, bb2⟩
      have BB : Hid (Bl w2 (w.heap.size + 1) (w.heap.size + 1) [hx (m0 / 16), hx (m0 % 16), 58, hx (m1 / 16), hx (m1 % 16), 58, hx (m2 / 16), hx (m2 % 16), 58, hx (m3 / 16), hx (m3 % 16), 58]) := hid h2; have HB := hid (HB.out.trans bb2)
      clear h2 bb2
      go_wp2_with fail
      refine (wbyte _ (w.heap.size + 1) (w.heap.size + 1) [hx (m0 / 16), hx (m0 % 16), 58, hx (m1 / 16), hx (m1 % 16), 58, hx (m2 / 16), hx (m2 % 16), 58, hx (m3 / 16), hx (m3 % 16), 58] (hx (m4 / 16)) BB.out (hx_bd _) (by simp)).mono ?_
      rintro x w3 ⟨rfl, h2, bb2⟩
      have BB : Hid (Bl w3 (w.heap.size + 1) (w.heap.size + 1) [hx (m0 / 16), hx (m0 % 16), 58, hx (m1 / 16), hx (m1 % 16), 58, hx (m2 / 16), hx (m2 % 16), 58, hx (m3 / 16), hx (m3 % 16), 58, hx (m4 / 16)]) := hid h2; have HB := hid (HB.out.trans bb2)
      clear h2 bb2
      go_wp2_with fail
      refine (wbyte _ (w.heap.size + 1) (w.heap.size + 1) [hx (m0 / 16), hx (m0 % 16), 58, hx (m1 / 16), hx (m1 % 16), 58, hx (m2 / 16), hx (m2 % 16), 58, hx (m3 / 16), hx (m3 % 16), 58, hx (m4 / 16)] (hx (m4 % 16)) BB.out (hx_bd _) (by simp)).mono ?_
      rintro x w4 ⟨rfl, h2, bb2⟩
      have BB : Hid (Bl w4 (w.heap.size + 1) (w.heap.size + 1) [hx (m0 / 16), hx (m0 % 16), 58, hx (m1 / 16), hx (m1 % 16), 58, hx (m2 / 16), hx (m2 % 16), 58, hx (m3 / 16), hx (m3 % 16), 58, hx (m4 / 16), hx (m4 % 16)]) := hid h2; have HB := hid (HB.out.trans bb2)
      clear h2 bb2
      go_wp2
      go_roundw
      case rel => exact ⟨.inr (.inr (.inr (.inr (.inr (.inl ⟨rfl, BB⟩))))), HB⟩
      case measure => simp [RowKit.intOf]
    · skip
      obtain ⟨rfl, BB⟩ := hh
      have ix : ∀ W, (Instr.index 23 (.agg #[.int .u8 m0, .int .u8 m1, .int .u8 m2, .int .u8 m3, .int .u8 m4, .int .u8 m5]) (.int .i64 5)).run Try.prog W = .ok (.int .u8 m5) W := fun _ => by kernel_rfl
      have xa := fun W => ixh (m5 / 16) (by omega) W
      have xb := fun W => ixh (m5 % 16) (by omega) W
      have hb15 := u8_15 m5 (by omega)
      go_wp2_with fail
      refine (wbyte _ (w.heap.size + 1) (w.heap.size + 1) [hx (m0 / 16), hx (m0 % 16), 58, hx (m1 / 16), hx (m1 % 16), 58, hx (m2 / 16), hx (m2 % 16), 58, hx (m3 / 16), hx (m3 % 16), 58, hx (m4 / 16), hx (m4 % 16)] (58) BB.out (by omega) (by simp)).mono ?_
      rintro x w2 ⟨rfl, h2, bb2⟩
      have BB : Hid (Bl w2 (w.heap.size + 1) (w.heap.size + 1) [hx (m0 / 16), hx (m0 % 16), 58, hx (m1 / 16), hx (m1 % 16), 58, hx (m2 / 16), hx (m2 % 16), 58, hx (m3 / 16), hx (m3 % 16), 58, hx (m4 / 16), hx (m4 % 16), 58]) := hid h2; have HB := hid (HB.out.trans bb2)
      clear h2 bb2
      go_wp2_with fail
      refine (wbyte _ (w.heap.size + 1) (w.heap.size + 1) [hx (m0 / 16), hx (m0 % 16), 58, hx (m1 / 16), hx (m1 % 16), 58, hx (m2 / 16), hx (m2 % 16), 58, hx (m3 / 16), hx (m3 % 16), 58, hx (m4 / 16), hx (m4 % 16), 58] (hx (m5 / 16)) BB.out (hx_bd _) (by simp)).mono ?_
      rintro x w3 ⟨rfl, h2, bb2⟩
      have BB : Hid (Bl w3 (w.heap.size + 1) (w.heap.size + 1) [hx (m0 / 16), hx (m0 % 16), 58, hx (m1 / 16), hx (m1 % 16), 58, hx (m2 / 16), hx (m2 % 16), 58, hx (m3 / 16), hx (m3 % 16), 58, hx (m4 / 16), hx (m4 % 16), 58, hx (m5 / 16)]) := hid h2; have HB := hid (HB.out.trans bb2)
      clear h2 bb2
      go_wp2_with fail
      refine (wbyte _ (w.heap.size + 1) (w.heap.size + 1) [hx (m0 / 16), hx (m0 % 16), 58, hx (m1 / 16), hx (m1 % 16), 58, hx (m2 / 16), hx (m2 % 16), 58, hx (m3 / 16), hx (m3 % 16), 58, hx (m4 / 16), hx (m4 % 16), 58, hx (m5 / 16)] (hx (m5 % 16)) BB.out (hx_bd _) (by simp)).mono ?_
      rintro x w4 ⟨rfl, h2, bb2⟩
      have BB : Hid (Bl w4 (w.heap.size + 1) (w.heap.size + 1) [hx (m0 / 16), hx (m0 % 16), 58, hx (m1 / 16), hx (m1 % 16), 58, hx (m2 / 16), hx (m2 % 16), 58, hx (m3 / 16), hx (m3 % 16), 58, hx (m4 / 16), hx (m4 % 16), 58, hx (m5 / 16), hx (m5 % 16)]) := hid h2; have HB := hid (HB.out.trans bb2)
      clear h2 bb2
      go_wp2
      go_roundw
      case rel => exact ⟨.inr (.inr (.inr (.inr (.inr (.inr (⟨rfl, BB⟩)))))), HB⟩
      case measure => simp [RowKit.intOf]
    · skip
      obtain ⟨rfl, BB⟩ := hh
      go_wp2_with fail
      refine (bstring _ (w.heap.size + 1) (w.heap.size + 1) (tx m0 m1 m2 m3 m4 m5) BB.out (by simp [tx])).mono ?_
      rintro x w2 ⟨rfl, bb2⟩
      have QF : Hid (Only [] w w2) := hid (QB0.out.trans (Only.of_below ((HB.out.trans bb2).mono HS1.out)))
      go_wp2
      go_ret
      exact ⟨rfl, QF.out⟩
end Go.Proofs.Ytiihhngddmboaaa.eth
